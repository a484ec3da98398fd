/- Parts with signs of one rank between them. -/
import Derived.Test.YtdnnmjhfidimcaaGreatDoorTk
import Derived.Test.YtdnnmjhfidimcaaGreatDoorJoint14
namespace Go.Proofs.YtdnnmjhfidimcaaGreatDoor
set_option maxHeartbeats 6400000
open Go.RowKit
def eU (P:Nat) (L:List Tok) (w:World):Nat:=L.length - (intOf ((w.cell? ⟨P,1,none⟩).getD undef)).toNat
theorem eO {P:Nat} {L l:List Tok} {w:World} (h:PSt P L w l):eU P L w=l.length:=by
 obtain⟨R,cap,h1,h2,h3,h4⟩:=h.mem;have hl:=h.suf.length_le;unfold eU;rw [aB h4];simp [intOf];omega
theorem zQ {lo P:Nat} {w c:World} {v:Value} {ws:List ByteArray} (h:JL lo w v ws) (k:But P w c) (hp:P<lo):cA w.heap.size v ws c:=by
 have h2:xG (Qt lo w) v ws c:=qH (fun b hb=>⟨hb,k.block b hb.2 (by have:=hb.1;omega)⟩) h;rcases h2 with h | ⟨b,off,cap,h1,h2,h3,h4⟩
 ·exact .inl h
 ·exact .inr ⟨b,off,cap,h1,h2.2,h3,h4⟩
def Bd (s:List (List UInt8×Int×Int)):List ByteArray:=s.map fun p=>⟨p.1.toArray⟩
theorem zR (l:List Tok):∀ s:List (List UInt8×Int×Int),(eS (Bd s) l=none→pC s l=none)∧∀ x,eS (Bd s) l=some x→∃ k o,pC s l=some (k,o)∧(x.data.toList,k,o)∈s
 | []=>⟨fun _=>rfl,fun x h=>by cases h⟩
 | (y,k,o)::r=>by
  have ih:=zR l r;have e:eS (Bd ((y,k,o)::r)) l=if bZ l y then some ⟨y.toArray⟩ else eS (Bd r) l:=by
   unfold eS Bd;rw [List.map_cons,List.find?_cons];simp only;cases bZ l y<;>rfl
  rw [e];cases hh:bZ l y with
  | true=>
   refine⟨fun h=>by simp at h,fun x hx=>⟨k,o,by rw [pC,hh];rfl,?_⟩⟩;simp at hx;subst hx;simp
  | false=>
   refine⟨fun h=>by rw [pC,hh];exact ih.1 (by simpa using h),fun x hx=>?_⟩;obtain⟨k',o',h1,h2⟩:=ih.2 x (by simpa using hx);exact⟨k',o',by rw [pC,hh];exact h1,by simp [h2]⟩
theorem FO {ws:List ByteArray} {l:List Tok} {x:ByteArray} (h:eS ws l=some x):∃ t q,l=t::q∧gH t x.data.toList=true:=by
 have:=List.find?_some h;exact aX this
theorem Pz {t:Tok} {x:ByteArray} (h:gH t x.data.toList=true) (hr:cP t=true):x.toList.isEmpty=false:=by
 rw [Lib.toList_data,← zF h];have h6:=DL h;have hne:t.text.data.toList≠[]:=by
  unfold gH at h;rw [Bool.and_eq_true,Bool.or_eq_true,beq_iff_eq,beq_iff_eq] at h;unfold cP at hr;rcases h.1 with h2 | h5
  ·rw [h2] at hr;simp at hr;intro e;rw [e] at hr;exact absurd hr.2 (by decide)
  ·rw [h5] at hr;simp at hr;intro e;rw [e] at hr;exact absurd hr.2 (by decide)
 cases hq:t.text.data.toList with
 | nil=>exact absurd hq hne
 | cons=>rfl
theorem jX {P:Nat} {L l:List Tok} {w:World} (h:PSt P L w l):GT l:=gP h.ok.right h.suf
theorem DO {s:ByteArray} {l:List UInt8} (h:s.data.toList=l):s=⟨l.toArray⟩:=by rw [← h]
def QP (P:Nat) (L:List Tok) (r:Nat) (m:List Tok) (s:Value) (wr:World):Prop:=
 (s=.string ⟨#[]⟩∧lP r m=none∧PSt P L wr m)∨∃ t q k o x,m=t::q∧s=.string x∧gH t x.data.toList=true∧cP t=true∧lP r m=some (k,o)∧(x.data.toList,k,o)∈zD r∧PSt P L wr q
theorem tZ (r:Nat) (hr:(zD r).length≤1000) (P:Nat) (L m:List Tok) (B:Nat) (v:Value) (w:World) (hB:B≤w.heap.size) (H:Hid (PSt P L w m)) (hV:Hid (cA B v (Bd (zD r)) w)) :
  Calls Tryz.prog 69 #[.pointer (some ⟨P,0,none⟩),v] w fun e w'=>∃ s,e=.returned s∧QP P L r m s w'∧But P w w':=by
 have hl:(Bd (zD r)).length≤1000:=by unfold Bd;simpa using hr
 have hfs:=zR m (zD r);cases hfw:eS (Bd (zD r)) m with
 | none=>
  refine (qG P L m _ B v w hB H hV hl hfw).mono ?_;rintro e w' ⟨rfl,b⟩;exact⟨_,rfl,.inl ⟨rfl,hfs.1 hfw,H.out.on b⟩,But.of b⟩
 | some x=>
  obtain⟨t,q,rfl,ht⟩:=FO hfw;obtain⟨k,o,h1,h2⟩:=hfs.2 x hfw;refine (dF P L t q _ x B v w hB H hV hl hfw).mono ?_;rintro e w' ⟨rfl,s',b⟩;exact⟨_,rfl,.inr ⟨t,q,k,o,x,rfl,rfl,ht,jX H.out t (by simp),h1,h2,s'⟩,b⟩
theorem Cw (r:Nat):(zD r).length≤1000:=by
 unfold zD;split<;>simp
theorem DP {r:Nat} (hr:1≤r∧r≤6) {s:ByteArray} {k o:Int} (hin:(s.data.toList,k,o)∈zD r) (B:Nat) (ok:Nat→Prop) (x y:Nd) (nv kv nv' kv':Value) (w:World) (hO:Hid (Ok B w)) (hok:∀ b,w.heap.size≤b→ok b) (N1:Hid (rI ok w x nv kv)) (N2:Hid (rI ok w y nv' kv')) :
  Calls Tryz.prog 70 #[fR x nv kv,.string s,fR y nv' kv'] w fun e w'=>(∃ nv'' kv'',e=.returned (fR (gK k o [x,y]) nv'' kv'')∧rI ok w' (gK k o [x,y]) nv'' kv'')∧Below w.heap.size w w':=by
 obtain rfl | rfl | h:r=1∨r=2∨3≤r:=by omega
 ·simp [zD] at hin;obtain⟨h1,rfl,rfl⟩:=hin;obtain rfl:=DO h1;exact Oa ok x y nv kv nv' kv' w hok N1 N2
 ·simp [zD] at hin;obtain⟨h1,rfl,rfl⟩:=hin;obtain rfl:=DO h1;exact LV ok x y nv kv nv' kv' w hok N1 N2
 ·obtain⟨oo,ho1,ho2,rfl,rfl,hs⟩:∃ oo:Nat,1≤oo∧oo≤11∧k=10∧o=(oo:Int)∧s.data.toList=signT (oo:Int):=by
   obtain rfl | rfl | rfl | rfl:r=3∨r=4∨r=5∨r=6:=by omega
   ·simp [zD] at hin;rcases hin with ⟨h1,rfl,rfl⟩ | ⟨h1,rfl,rfl⟩
    ·exact⟨10,by omega,by omega,rfl,rfl,h1⟩
    ·exact⟨11,by omega,by omega,rfl,rfl,h1⟩
   ·simp [zD] at hin;rcases hin with ⟨h1,rfl,rfl⟩ | ⟨h1,rfl,rfl⟩ | ⟨h1,rfl,rfl⟩ | ⟨h1,rfl,rfl⟩
    ·exact⟨6,by omega,by omega,rfl,rfl,h1⟩
    ·exact⟨7,by omega,by omega,rfl,rfl,h1⟩
    ·exact⟨8,by omega,by omega,rfl,rfl,h1⟩
    ·exact⟨9,by omega,by omega,rfl,rfl,h1⟩
   ·simp [zD] at hin;rcases hin with ⟨h1,rfl,rfl⟩ | ⟨h1,rfl,rfl⟩
    ·exact⟨1,by omega,by omega,rfl,rfl,h1⟩
    ·exact⟨2,by omega,by omega,rfl,rfl,h1⟩
   ·simp [zD] at hin;rcases hin with ⟨h1,rfl,rfl⟩ | ⟨h1,rfl,rfl⟩ | ⟨h1,rfl,rfl⟩
    ·exact⟨3,by omega,by omega,rfl,rfl,h1⟩
    ·exact⟨4,by omega,by omega,rfl,rfl,h1⟩
    ·exact⟨5,by omega,by omega,rfl,rfl,h1⟩
  exact JM oo ho1 ho2 s hs B ok x y nv kv nv' kv' w hO hok N1 N2
set_option linter.unusedSimpArgs false in
theorem oI (r N:Nat) (hr:1≤r∧r≤6) (hN:Pp (r+1)=N) (hcf:∀ (args:Array Value) (w:World),(callFunc N args).run Tryz.prog w=.ok (.enter N args) w) (f:Nat) (hR:∀ g,g≤f→gS g) (lo P:Nat) (L l:List Tok) (sv:Value) (w:World) (hf:20*l.length+(10 - r)≤f) (hlo:P<lo) (H:Hid (PSt P L w l)) (HV:Hid (JL lo w sv (Bd (zD r)))) :
  Calls Tryz.prog 44 #[.pointer (some ⟨P,0,none⟩),.func (.func N) #[.pointer (some ⟨P,0,none⟩)] #[],sv] w (bR P L w ((aS f (r+1) l).bind fun e b l=>gI f r e b l)):=by
 have A:=aA ((Below.refl _ w).alloc (Nat.le_refl _) (.cells dK 26));have S0:=aA (H.out.on A.out);have G0:=aA (aI w 26 dK);have hP:=H.out.lt;have HC:=aA (show ∀ w',Hid (PSt P L w' l)→Calls Tryz.prog N #[.pointer (some ⟨P,0,none⟩)] w' (bR P L w' (aS f (r+1) l)) from fun w' S=>hN▸hR f (Nat.le_refl _) (r+1) P L l w' (by omega) (by omega) (by omega) S);have HM:=aA ((yF f).rank (r+1) l (jX H.out));have HR:=aA (show ∀ g,g≤f→∀ (q:List Tok) (w':World),20*q.length+(10 - r)≤g→Hid (PSt P L w' q)→Calls Tryz.prog N #[.pointer (some ⟨P,0,none⟩)] w' (bR P L w' (aS g (r+1) q)) from fun g hg q w' hq S=>hN▸hR g hg (r+1) P L q w' (by omega) (by omega) (by omega) S);unfold dK at *
 clear H hR;cases hq:aS f (r+1) l with
 | bad l'=>
  rw [hq] at HC;rw [PR.bind_bad];clear HM HR;go_enter Tryz.func44,Tryz.ntmps44;go_wp2_with fail;refine (HC.out _ S0).mono ?_;rintro e w2 ⟨rfl,s2,b2⟩;have S2:=aA s2;have B2:=aA ((But.of A.out).trans b2);clear s2 b2 S0 A G0 HC;unfold aV;go_wp2_with fail;exact⟨rfl,rfl,S2.out,B2.out⟩
 | ok x b l'=>
  rw [hq] at HC HM;rw [PR.bind_ok];have hm:l'.length+1≤l.length:=by
   obtain⟨_,pre,u,e,_⟩:=HM.out;rw [e];simp
  clear HM;go_enter Tryz.func44,Tryz.ntmps44;go_wp2_with fail;refine (HC.out _ S0).mono ?_;rintro e1 w1 ⟨⟨nv,kv,rfl,n1⟩,s1,b1⟩;obtain⟨a1,q1,a2,q2,rfl,rfl⟩:=aP n1;have hsz1:=b1.size;simp only [World.size_alloc] at hsz1;have AA:=(Below.refl _ w1).alloc (Nat.le_refl _) (.cells (fL x (.slice a1 x.names.length q1) (.slice a2 x.kids.length q2)) 26);have S1:=aA (s1.on AA);have B1:=aA (((But.of A.out).trans b1).trans (But.of AA));have Z1:=aA (aC (aD G0.out b1 (by omega)) AA);have G1:=aA (aI w1 26 (fL x (.slice a1 x.names.length q1) (.slice a2 x.kids.length q2)));have N1:=aA (aU (aT AA) (jO (ok:=fun b=>w.heap.size+1≤b∧b≠w1.heap.size) n1 (fun b h1 h2=>⟨by simpa using h1,by omega⟩)));clear b1 s1 n1 AA S0 A G0 HC hq;unfold fR;unfold fL at *
  have V1:=aA (zQ HV.out B1.out hlo);have hl1:w.heap.size+1≤w1.heap.size:=hsz1;go_wp2_with fail;refine (tZ r (Cw r) P L l' w.heap.size sv _ (by simp;omega) S1 V1).mono ?_;rintro e3 w3 ⟨sv0,rfl,hbt,b3⟩;have BT:=aA hbt;have B3:=aA (B1.out.trans b3);have Z3:=aA (aD Z1.out b3 (by omega));have G3:=aA (aD G1.out b3 (by omega));have N3:=aA (aU (dG b3 (by omega)) N1.out);clear hbt b3 S1 B1 Z1 G1 N1 V1;go_wp2_with fail;go_loopw [8] (fun s wr=>∃ (g:Nat) (e:Nd) (c:Bool) (m:List Tok) (nv kv:Value),Hid (gI f r x b l'=gI g r e c m)∧20*m.length+5≤g∧g≤f∧Hid (But P w wr)∧Hid (dP w.heap.size 26 dK wr)∧Hid (dP w1.heap.size 26 (fL e nv kv) wr)∧Hid (rI (fun b=>w.heap.size+1≤b∧b≠w1.heap.size) wr e nv kv)∧Hid (QP P L r m s wr)) (fun _ wr=>eU P L wr)
  case atStart=>exact⟨f,x,b,l',_,_,(show Hid (_=_) from rfl),by omega,Nat.le_refl _,B3.out,Z3.out,G3.out,N3.out,BT.out⟩
  case round=>
   obtain⟨g,e,c,m,nv,kv,hpe,hgm,hgf,hB,hZ,hG,hN,hS⟩:=hrel;clear B3 Z3 G3 N3 BT;obtain⟨g,rfl⟩:∃ g',g=g'+1:=⟨g - 1,by omega⟩
   obtain⟨b1,p1,b2,p2,rfl,rfl⟩:=hM hN.out;have hg0:=aF hZ.out;have hg1:=aF hG.out;unfold dK fL at *
   rcases hS.out with ⟨rfl,hsn,hst⟩ | ⟨t,q,k,o,sx,rfl,rfl,hst,hrt,hsn,hin,hpq⟩
   ·have HE:=aA (hpe.out.trans (show gI (g+1) r e c m=.ok e c m by rw [gI,hsn]));have S4:=aA hst;obtain⟨r0,r1,r2,r3,r4,r5,r6⟩:=aN hG.out;obtain⟨z0,z1,z2,z3,z4,z5,z6⟩:=aN hZ.out;obtain⟨u0,u1,u2,u3,u4,u5,u6⟩:=bP hZ.out;clear hpe hsn hst hS HR;go_wp2_with fail;have Z:=bS hP (Nat.le_refl _) S4.out hB.out hZ.out (.int .i64 e.kind) (.int .i64 e.op) (.int .i64 e.num) (.string e.str) (.slice b1 e.names.length p1) (.slice b2 e.kids.length p2) (.int .i64 e.pl);refine bodyPost_ret (cJ rfl rfl Z.1) rfl ?_;rw [HE.out];exact⟨⟨_,_,rfl,rP (aU (eT _ (by omega) _ _ _ _ _ _ _) hN.out) (fun b h=>by omega)⟩,Z.2.1,Z.2.2⟩
   ·have hxe:=Pz hst hrt;have HIN:=aA hin;have HE:=aA (hpe.out.trans (show gI (g+1) r e c (t::q)=(aS g (r+1) q).bind fun e' _ l=>gI g r (gK k o [e,e']) false l by rw [gI,hsn];rfl));have HMq:=aA ((yF g).rank (r+1) q (jX hpq));have HCq:=aA (fun w' S=>HR.out g (by omega) q w' (by simp at hgm;omega) S);have S2:=aA hpq;clear hpe hsn hst hrt hS HR hin hpq;cases hqq:aS g (r+1) q with
    | bad m'=>
     rw [hqq] at HE HCq;rw [PR.bind_bad] at HE;obtain⟨r0,r1,r2,r3,r4,r5,r6⟩:=aN hG.out;go_wp2_with fail;refine wp_region_held_drew (S:=fun _=>True) (by kernel_rfl) trivial (fun hHeld=>?_);refine QI 1 ?_;refine QI 2 ?_;refine wpAnyH_ready (rs:=[0,3]) (by kernel_rfl) (by simp) ?_;refine AllReadyH.cons rfl (fun K hK=>?_) (AllReadyH.cons rfl (fun K hK=>?_) AllReadyH.nil)
     ·go_simp;refine hK.out _ _ trivial (fun hHeld=>?_);clear hK K;refine iV 3 (fun K hK=>?_);have HK:=aA hK;clear hK;go_simp;refine (HCq.out _ (aA (S2.out.on (Below.refl _ _).drew))).mono ?_;rintro e5 w5 ⟨rfl,s5,b5⟩;have S5:=aA s5;have B5:=aA ((hB.out.trans (But.of (Below.refl _ _).drew)).trans b5);clear s5 b5 HK;unfold aV;go_wp2_with fail;refine⟨rfl,?_⟩;rw [HE.out];exact⟨rfl,S5.out,B5.out⟩
     ·have HK:=aA hK;clear hK;go_simp;refine (HCq.out _ (aA (S2.out.on (Below.refl _ _).drew))).mono ?_;rintro e5 w5 ⟨rfl,s5,b5⟩;have S5:=aA s5;have B5:=aA ((hB.out.trans (But.of (Below.refl _ _).drew)).trans b5);clear s5 b5 HK;unfold aV;go_wp2_with fail;refine⟨rfl,?_⟩;rw [HE.out];exact⟨rfl,S5.out,B5.out⟩
    | ok x2 c2 m'=>
     rw [hqq] at HE HCq HMq;rw [PR.bind_ok] at HE;have hm2:m'.length+1≤q.length:=by
      obtain⟨_,pre,u,e,_⟩:=HMq.out;rw [e];simp
     clear HMq;obtain⟨r0,r1,r2,r3,r4,r5,r6⟩:=aN hG.out;go_wp2_with fail;refine wp_region_held_drew (S:=fun _=>True) (by kernel_rfl) trivial (fun hHeld=>?_);refine QI 1 ?_;refine QI 2 ?_;refine wpAnyH_ready (rs:=[0,3]) (by kernel_rfl) (by simp) ?_;refine AllReadyH.cons rfl (fun K hK=>?_) (AllReadyH.cons rfl (fun K hK=>?_) AllReadyH.nil)
     ·go_simp;refine hK.out _ _ trivial (fun hHeld=>?_);clear hK K;refine iV 3 (fun K hK=>?_);have HK:=aA hK;clear hK;go_simp;refine (HCq.out _ (aA (S2.out.on (Below.refl _ _).drew))).mono ?_;rintro e3 w3 ⟨⟨nv3,kv3,rfl,n3⟩,s3,b3⟩;obtain⟨f1,g1,f2,g2,rfl,rfl⟩:=aP n3;have DR:=(Below.refl wr.heap.size wr).drew;have S3:=aA s3;have B3:=aA ((hB.out.trans (But.of DR)).trans b3);have Z3:=aA (aD (aC hZ.out DR) b3 (by omega));have G3:=aA (aD (aC hG.out DR) b3 (by omega));have N3:=aA (aU (dG b3 (by omega)) (aU (aT DR) hN.out));have M3:=aA (jO (ok:=fun b=>w.heap.size+1≤b∧b≠w1.heap.size) n3 (fun b h1 h2=>by simp at h1;omega));have hz3:=b3.size;have hl3:∀ b,w3.heap.size≤b→w.heap.size+1≤b∧b≠w1.heap.size:=by intro b hb;simp at hz3;omega
      clear s3 b3 n3 DR;unfold fR;simp only;refine HK.out.out _ _ trivial (fun hHeld=>?_);clear HK K;refine iV 4 (fun K hK=>?_);have HK:=aA hK;clear hK;go_simp;refine (DP hr HIN.out P _ e x2 _ _ _ _ _ (aA S3.out.sg) hl3 (aA N3.out) (aA M3.out)).mono ?_;rintro e4 w4 ⟨⟨nv4,kv4,rfl,n4⟩,b4⟩;obtain⟨c1,d1,c3,d3,rfl,rfl⟩:=hM n4;have S4:=aA (S3.out.on b4);have B4:=aA (B3.out.trans (But.of b4));have Z4:=aA (aC Z3.out b4);have G4:=aA (aC G3.out b4);have N4:=aA n4;have hg4:=aF G4.out;obtain⟨s0,s1,s2,s3,s4,s5,s6⟩:=aN G4.out;obtain⟨u0,u1,u2,u3,u4,u5,u6⟩:=bP G4.out;clear b4 n4 S3 B3 Z3 G3 N3 M3;unfold fR;simp only;refine HK.out.out _ _ trivial (fun hHeld=>?_);clear HK K;refine iV 5 (fun K hK=>?_);have HK:=aA hK;clear hK;go_simp;refine HK.out.out _ _ trivial (fun hHeld=>?_);clear HK K;refine wpAnyH_done (by kernel_rfl) ?_ _;have F:=bS hP (by omega) S4.out B4.out G4.out (.int .i64 (gK k o [e,x2]).kind) (.int .i64 (gK k o [e,x2]).op) (.int .i64 (gK k o [e,x2]).num) (.string (gK k o [e,x2]).str) (.slice c1 (gK k o [e,x2]).names.length d1) (.slice c3 (gK k o [e,x2]).kids.length d3) (.int .i64 (gK k o [e,x2]).pl);have Z5:=aA (iF (g:=w1.heap.size) Z4.out (by omega) (.int .i64 (gK k o [e,x2]).kind) (.int .i64 (gK k o [e,x2]).op) (.int .i64 (gK k o [e,x2]).num) (.string (gK k o [e,x2]).str) (.slice c1 (gK k o [e,x2]).names.length d1) (.slice c3 (gK k o [e,x2]).kids.length d3) (.int .i64 (gK k o [e,x2]).pl));have N5:=aA (aU (eT (g:=w1.heap.size) w4 (by simp) (.int .i64 (gK k o [e,x2]).kind) (.int .i64 (gK k o [e,x2]).op) (.int .i64 (gK k o [e,x2]).num) (.string (gK k o [e,x2]).str) (.slice c1 (gK k o [e,x2]).names.length d1) (.slice c3 (gK k o [e,x2]).kids.length d3) (.int .i64 (gK k o [e,x2]).pl)) N4.out);have G5:=aA F.1;have S5:=aA F.2.1;have B5:=aA F.2.2;have V5:=aA (zQ HV.out F.2.2 hlo);have hz5:=F.2.2.size;clear F S4 B4 Z4 G4 N4 s0 s1 s2 s3 s4 s5 s6 u0 u1 u2 u3 u4 u5 u6 hHeld r0 r1 r2 r3 r4 r5 r6;unfold put7w at Z5 N5 G5 S5 B5 V5 hz5;obtain⟨w5,hw5⟩:∃ w5,(((((((w4.setCell ⟨w1.heap.size,0,none⟩ (.int .i64 (gK k o [e,x2]).kind)).setCell ⟨w1.heap.size,1,none⟩ (.int .i64 (gK k o [e,x2]).op)).setCell ⟨w1.heap.size,2,none⟩ (.int .i64 (gK k o [e,x2]).num)).setCell ⟨w1.heap.size,3,none⟩ (.string (gK k o [e,x2]).str)).setCell ⟨w1.heap.size,4,none⟩ (.slice c1 (gK k o [e,x2]).names.length d1)).setCell ⟨w1.heap.size,5,none⟩ (.slice c3 (gK k o [e,x2]).kids.length d3)).setCell ⟨w1.heap.size,6,none⟩ (.int .i64 (gK k o [e,x2]).pl))=w5:=⟨_,rfl⟩
      rw [hw5] at Z5 N5 G5 S5 B5 V5 hz5 ⊢;clear hw5 hg4;go_wp2_with fail;refine (tZ r (Cw r) P L m' w.heap.size sv _ hz5 S5 V5).mono ?_;rintro e6 w6 ⟨sv6,rfl,hbt,b6⟩;have BT6:=aA hbt;have B6:=aA (B5.out.trans b6);have Z6:=aA (aD Z5.out b6 (by omega));have G6:=aA (aD G5.out b6 (by omega));have N6:=aA (aU (dG b6 (by omega)) N5.out);have HLE:=aA (show eU P L w6<eU P L wr by
       have h1:=eO S2.out;have h2:eU P L w6≤m'.length:=by
        rcases hbt with ⟨_,_,h⟩ | ⟨_,_,_,_,_,e,_,_,_,_,_,h⟩
        ·exact Nat.le_of_eq (eO h)
        ·rw [eO h,e];simp
       omega)
      clear hbt b6 S5 B5 Z5 G5 N5 V5 S2 hB hZ hG hN;go_wp2_with fail;go_roundw
      case rel=>exact⟨g,_,false,m',_,_,HE.out,by simp at hgm;omega,by omega,B6.out,Z6.out,G6.out,N6.out,BT6.out⟩
      case measure=>exact HLE.out
     ·have HK:=aA hK;clear hK;go_simp;refine (HCq.out _ (aA (S2.out.on (Below.refl _ _).drew))).mono ?_;rintro e3 w3 ⟨⟨nv3,kv3,rfl,n3⟩,s3,b3⟩;obtain⟨f1,g1,f2,g2,rfl,rfl⟩:=aP n3;have DR:=(Below.refl wr.heap.size wr).drew;have S3:=aA s3;have B3:=aA ((hB.out.trans (But.of DR)).trans b3);have Z3:=aA (aD (aC hZ.out DR) b3 (by omega));have G3:=aA (aD (aC hG.out DR) b3 (by omega));have N3:=aA (aU (dG b3 (by omega)) (aU (aT DR) hN.out));have M3:=aA (jO (ok:=fun b=>w.heap.size+1≤b∧b≠w1.heap.size) n3 (fun b h1 h2=>by simp at h1;omega));have hz3:=b3.size;have hl3:∀ b,w3.heap.size≤b→w.heap.size+1≤b∧b≠w1.heap.size:=by intro b hb;simp at hz3;omega
      clear s3 b3 n3 DR;unfold fR;simp only;refine HK.out.out _ _ trivial (fun hHeld=>?_);clear HK K;obtain⟨t0,t1,t2,t3,t4,t5,t6⟩:=aN G3.out;refine iV 0 (fun K hK=>?_);have HK:=aA hK;clear hK;go_simp;refine HK.out.out _ _ trivial (fun hHeld=>?_);clear HK K t0 t1 t2 t3 t4 t5 t6;refine iV 4 (fun K hK=>?_);have HK:=aA hK;clear hK;go_simp;refine (DP hr HIN.out P _ e x2 _ _ _ _ _ (aA S3.out.sg) hl3 (aA N3.out) (aA M3.out)).mono ?_;rintro e4 w4 ⟨⟨nv4,kv4,rfl,n4⟩,b4⟩;obtain⟨c1,d1,c3,d3,rfl,rfl⟩:=hM n4;have S4:=aA (S3.out.on b4);have B4:=aA (B3.out.trans (But.of b4));have Z4:=aA (aC Z3.out b4);have G4:=aA (aC G3.out b4);have N4:=aA n4;have hg4:=aF G4.out;obtain⟨s0,s1,s2,s3,s4,s5,s6⟩:=aN G4.out;obtain⟨u0,u1,u2,u3,u4,u5,u6⟩:=bP G4.out;clear b4 n4 S3 B3 Z3 G3 N3 M3;unfold fR;simp only;refine HK.out.out _ _ trivial (fun hHeld=>?_);clear HK K;refine iV 5 (fun K hK=>?_);have HK:=aA hK;clear hK;go_simp;refine HK.out.out _ _ trivial (fun hHeld=>?_);clear HK K;refine wpAnyH_done (by kernel_rfl) ?_ _;have F:=bS hP (by omega) S4.out B4.out G4.out (.int .i64 (gK k o [e,x2]).kind) (.int .i64 (gK k o [e,x2]).op) (.int .i64 (gK k o [e,x2]).num) (.string (gK k o [e,x2]).str) (.slice c1 (gK k o [e,x2]).names.length d1) (.slice c3 (gK k o [e,x2]).kids.length d3) (.int .i64 (gK k o [e,x2]).pl);have Z5:=aA (iF (g:=w1.heap.size) Z4.out (by omega) (.int .i64 (gK k o [e,x2]).kind) (.int .i64 (gK k o [e,x2]).op) (.int .i64 (gK k o [e,x2]).num) (.string (gK k o [e,x2]).str) (.slice c1 (gK k o [e,x2]).names.length d1) (.slice c3 (gK k o [e,x2]).kids.length d3) (.int .i64 (gK k o [e,x2]).pl));have N5:=aA (aU (eT (g:=w1.heap.size) w4 (by simp) (.int .i64 (gK k o [e,x2]).kind) (.int .i64 (gK k o [e,x2]).op) (.int .i64 (gK k o [e,x2]).num) (.string (gK k o [e,x2]).str) (.slice c1 (gK k o [e,x2]).names.length d1) (.slice c3 (gK k o [e,x2]).kids.length d3) (.int .i64 (gK k o [e,x2]).pl)) N4.out);have G5:=aA F.1;have S5:=aA F.2.1;have B5:=aA F.2.2;have V5:=aA (zQ HV.out F.2.2 hlo);have hz5:=F.2.2.size;clear F S4 B4 Z4 G4 N4 s0 s1 s2 s3 s4 s5 s6 u0 u1 u2 u3 u4 u5 u6 hHeld r0 r1 r2 r3 r4 r5 r6;unfold put7w at Z5 N5 G5 S5 B5 V5 hz5;obtain⟨w5,hw5⟩:∃ w5,(((((((w4.setCell ⟨w1.heap.size,0,none⟩ (.int .i64 (gK k o [e,x2]).kind)).setCell ⟨w1.heap.size,1,none⟩ (.int .i64 (gK k o [e,x2]).op)).setCell ⟨w1.heap.size,2,none⟩ (.int .i64 (gK k o [e,x2]).num)).setCell ⟨w1.heap.size,3,none⟩ (.string (gK k o [e,x2]).str)).setCell ⟨w1.heap.size,4,none⟩ (.slice c1 (gK k o [e,x2]).names.length d1)).setCell ⟨w1.heap.size,5,none⟩ (.slice c3 (gK k o [e,x2]).kids.length d3)).setCell ⟨w1.heap.size,6,none⟩ (.int .i64 (gK k o [e,x2]).pl))=w5:=⟨_,rfl⟩
      rw [hw5] at Z5 N5 G5 S5 B5 V5 hz5 ⊢;clear hw5 hg4;go_wp2_with fail;refine (tZ r (Cw r) P L m' w.heap.size sv _ hz5 S5 V5).mono ?_;rintro e6 w6 ⟨sv6,rfl,hbt,b6⟩;have BT6:=aA hbt;have B6:=aA (B5.out.trans b6);have Z6:=aA (aD Z5.out b6 (by omega));have G6:=aA (aD G5.out b6 (by omega));have N6:=aA (aU (dG b6 (by omega)) N5.out);have HLE:=aA (show eU P L w6<eU P L wr by
       have h1:=eO S2.out;have h2:eU P L w6≤m'.length:=by
        rcases hbt with ⟨_,_,h⟩ | ⟨_,_,_,_,_,e,_,_,_,_,_,h⟩
        ·exact Nat.le_of_eq (eO h)
        ·rw [eO h,e];simp
       omega)
      clear hbt b6 S5 B5 Z5 G5 N5 V5 S2 hB hZ hG hN;go_wp2_with fail;go_roundw
      case rel=>exact⟨g,_,false,m',_,_,HE.out,by simp at hgm;omega,by omega,B6.out,Z6.out,G6.out,N6.out,BT6.out⟩
      case measure=>exact HLE.out
theorem PA (f:Nat) (hR:∀ g,g≤f→gS g) (P:Nat) (L l:List Tok) (w:World) (hf:20*l.length+(10 - 1)≤f) (H:Hid (PSt P L w l)) :
  Calls Tryz.prog 24 #[.pointer (some ⟨P,0,none⟩)] w (bR P L w ((aS f (1+1) l).bind fun e b l=>gI f 1 e b l)):=by
 have hP:=H.out.lt;have A1:=(Below.refl _ w).alloc (Nat.le_refl _) (.cells dK 26);have A2:=(Below.refl _ (w.alloc (.cells dK 26))).alloc (Nat.le_refl _) (.cells #[.string ⟨#[124,124]⟩] 9);have A:=aA (bB A1 A2);have S0:=aA (H.out.on A.out);have G0:=aA (aC (aI w 26 dK) A2);have V0:=aA (show JL (w.heap.size+1) ((w.alloc (.cells dK 26)).alloc (.cells #[.string ⟨#[124,124]⟩] 9)) (.slice (some ⟨w.heap.size+1,0,none⟩) 1 1) [⟨#[124,124]⟩] from by
  have hb:=aI (w.alloc (.cells dK 26)) 9 #[.string ⟨#[124,124]⟩];simp only [World.size_alloc] at hb;refine .inr ⟨w.heap.size+1,0,1,rfl,⟨Nat.le_refl _,by simp⟩,fun i hi=>?_,Nat.le_refl _⟩;rw [aB hb];simp only [List.length_cons,List.length_nil] at hi
  rcases (show i=0 by omega) with rfl<;>rfl)
 have HC:=aA (fun w' S V=>oI 1 _ (by omega) rfl (fun _ _=>by kernel_rfl) f hR (w.heap.size+1) P L l (.slice (some ⟨w.heap.size+1,0,none⟩) 1 1) w' hf (by omega) S V);unfold dK at *
 clear H hR A1 A2;cases hq:(aS f (1+1) l).bind fun e b l=>gI f 1 e b l with
 | bad l'=>
  simp only [hq] at HC;go_enter Tryz.func24,Tryz.ntmps24;go_wp2_with fail;refine (HC.out _ S0 V0).mono ?_;rintro e w2 ⟨rfl,s2,b2⟩;have S2:=aA s2;have B2:=aA ((But.of A.out).trans b2);clear s2 b2 S0 A G0 HC V0;unfold aV;go_wp2_with fail;exact⟨rfl,rfl,S2.out,B2.out⟩
 | ok x b l'=>
  simp only [hq] at HC;go_enter Tryz.func24,Tryz.ntmps24;go_wp2_with fail;refine (HC.out _ S0 V0).mono ?_;rintro e w2 ⟨⟨nv,kv,rfl,n2⟩,s2,b2⟩;obtain⟨a1,q1,a2,q2,rfl,rfl⟩:=aP n2;have S3:=aA s2;have N3:=aA (bE (lo':=w.heap.size+1) (by simp) n2);have B3:=aA ((But.of A.out).trans b2);have G3:=aA (aD G0.out b2 (by omega));have hg3:=aF G3.out;obtain⟨r0,r1,r2,r3,r4,r5,r6⟩:=aN G3.out;obtain⟨u0,u1,u2,u3,u4,u5,u6⟩:=bP G3.out;clear s2 b2 S0 A G0 HC n2 V0;unfold fR;go_wp2_with fail;have Z:=bS hP (Nat.le_refl _) S3.out B3.out G3.out (.int .i64 x.kind) (.int .i64 x.op) (.int .i64 x.num) (.string x.str) (.slice a1 x.names.length q1) (.slice a2 x.kids.length q2) (.int .i64 x.pl);exact bodyPost_ret (cJ rfl rfl Z.1) rfl ⟨⟨_,_,rfl,bE (Nat.le_succ _) (aY (cV w2 (Nat.lt_succ_self _) _ _ _ _ _ _ _) N3.out)⟩,Z.2.1,Z.2.2⟩
theorem PB (f:Nat) (hR:∀ g,g≤f→gS g) (P:Nat) (L l:List Tok) (w:World) (hf:20*l.length+(10 - 2)≤f) (H:Hid (PSt P L w l)) :
  Calls Tryz.prog 45 #[.pointer (some ⟨P,0,none⟩)] w (bR P L w ((aS f (2+1) l).bind fun e b l=>gI f 2 e b l)):=by
 have hP:=H.out.lt;have A1:=(Below.refl _ w).alloc (Nat.le_refl _) (.cells dK 26);have A2:=(Below.refl _ (w.alloc (.cells dK 26))).alloc (Nat.le_refl _) (.cells #[.string ⟨#[38,38]⟩] 9);have A:=aA (bB A1 A2);have S0:=aA (H.out.on A.out);have G0:=aA (aC (aI w 26 dK) A2);have V0:=aA (show JL (w.heap.size+1) ((w.alloc (.cells dK 26)).alloc (.cells #[.string ⟨#[38,38]⟩] 9)) (.slice (some ⟨w.heap.size+1,0,none⟩) 1 1) [⟨#[38,38]⟩] from by
  have hb:=aI (w.alloc (.cells dK 26)) 9 #[.string ⟨#[38,38]⟩];simp only [World.size_alloc] at hb;refine .inr ⟨w.heap.size+1,0,1,rfl,⟨Nat.le_refl _,by simp⟩,fun i hi=>?_,Nat.le_refl _⟩;rw [aB hb];simp only [List.length_cons,List.length_nil] at hi
  rcases (show i=0 by omega) with rfl<;>rfl)
 have HC:=aA (fun w' S V=>oI 2 _ (by omega) rfl (fun _ _=>by kernel_rfl) f hR (w.heap.size+1) P L l (.slice (some ⟨w.heap.size+1,0,none⟩) 1 1) w' hf (by omega) S V);unfold dK at *
 clear H hR A1 A2;cases hq:(aS f (2+1) l).bind fun e b l=>gI f 2 e b l with
 | bad l'=>
  simp only [hq] at HC;go_enter Tryz.func45,Tryz.ntmps45;go_wp2_with fail;refine (HC.out _ S0 V0).mono ?_;rintro e w2 ⟨rfl,s2,b2⟩;have S2:=aA s2;have B2:=aA ((But.of A.out).trans b2);clear s2 b2 S0 A G0 HC V0;unfold aV;go_wp2_with fail;exact⟨rfl,rfl,S2.out,B2.out⟩
 | ok x b l'=>
  simp only [hq] at HC;go_enter Tryz.func45,Tryz.ntmps45;go_wp2_with fail;refine (HC.out _ S0 V0).mono ?_;rintro e w2 ⟨⟨nv,kv,rfl,n2⟩,s2,b2⟩;obtain⟨a1,q1,a2,q2,rfl,rfl⟩:=aP n2;have S3:=aA s2;have N3:=aA (bE (lo':=w.heap.size+1) (by simp) n2);have B3:=aA ((But.of A.out).trans b2);have G3:=aA (aD G0.out b2 (by omega));have hg3:=aF G3.out;obtain⟨r0,r1,r2,r3,r4,r5,r6⟩:=aN G3.out;obtain⟨u0,u1,u2,u3,u4,u5,u6⟩:=bP G3.out;clear s2 b2 S0 A G0 HC n2 V0;unfold fR;go_wp2_with fail;have Z:=bS hP (Nat.le_refl _) S3.out B3.out G3.out (.int .i64 x.kind) (.int .i64 x.op) (.int .i64 x.num) (.string x.str) (.slice a1 x.names.length q1) (.slice a2 x.kids.length q2) (.int .i64 x.pl);exact bodyPost_ret (cJ rfl rfl Z.1) rfl ⟨⟨_,_,rfl,bE (Nat.le_succ _) (aY (cV w2 (Nat.lt_succ_self _) _ _ _ _ _ _ _) N3.out)⟩,Z.2.1,Z.2.2⟩
theorem PC (f:Nat) (hR:∀ g,g≤f→gS g) (P:Nat) (L l:List Tok) (w:World) (hf:20*l.length+(10 - 3)≤f) (H:Hid (PSt P L w l)) :
  Calls Tryz.prog 71 #[.pointer (some ⟨P,0,none⟩)] w (bR P L w ((aS f (3+1) l).bind fun e b l=>gI f 3 e b l)):=by
 have hP:=H.out.lt;have A1:=(Below.refl _ w).alloc (Nat.le_refl _) (.cells dK 26);have A2:=(Below.refl _ (w.alloc (.cells dK 26))).alloc (Nat.le_refl _) (.cells #[.string ⟨#[61,61]⟩,.string ⟨#[33,61]⟩] 9);have A:=aA (bB A1 A2);have S0:=aA (H.out.on A.out);have G0:=aA (aC (aI w 26 dK) A2);have V0:=aA (show JL (w.heap.size+1) ((w.alloc (.cells dK 26)).alloc (.cells #[.string ⟨#[61,61]⟩,.string ⟨#[33,61]⟩] 9)) (.slice (some ⟨w.heap.size+1,0,none⟩) 2 2) [⟨#[61,61]⟩,⟨#[33,61]⟩] from by
  have hb:=aI (w.alloc (.cells dK 26)) 9 #[.string ⟨#[61,61]⟩,.string ⟨#[33,61]⟩];simp only [World.size_alloc] at hb;refine .inr ⟨w.heap.size+1,0,2,rfl,⟨Nat.le_refl _,by simp⟩,fun i hi=>?_,Nat.le_refl _⟩;rw [aB hb];simp only [List.length_cons,List.length_nil] at hi
  rcases (show i=0∨i=1 by omega) with rfl | rfl<;>rfl)
 have HC:=aA (fun w' S V=>oI 3 _ (by omega) rfl (fun _ _=>by kernel_rfl) f hR (w.heap.size+1) P L l (.slice (some ⟨w.heap.size+1,0,none⟩) 2 2) w' hf (by omega) S V);unfold dK at *
 clear H hR A1 A2;cases hq:(aS f (3+1) l).bind fun e b l=>gI f 3 e b l with
 | bad l'=>
  simp only [hq] at HC;go_enter Tryz.func71,Tryz.ntmps71;go_wp2_with fail;refine (HC.out _ S0 V0).mono ?_;rintro e w2 ⟨rfl,s2,b2⟩;have S2:=aA s2;have B2:=aA ((But.of A.out).trans b2);clear s2 b2 S0 A G0 HC V0;unfold aV;go_wp2_with fail;exact⟨rfl,rfl,S2.out,B2.out⟩
 | ok x b l'=>
  simp only [hq] at HC;go_enter Tryz.func71,Tryz.ntmps71;go_wp2_with fail;refine (HC.out _ S0 V0).mono ?_;rintro e w2 ⟨⟨nv,kv,rfl,n2⟩,s2,b2⟩;obtain⟨a1,q1,a2,q2,rfl,rfl⟩:=aP n2;have S3:=aA s2;have N3:=aA (bE (lo':=w.heap.size+1) (by simp) n2);have B3:=aA ((But.of A.out).trans b2);have G3:=aA (aD G0.out b2 (by omega));have hg3:=aF G3.out;obtain⟨r0,r1,r2,r3,r4,r5,r6⟩:=aN G3.out;obtain⟨u0,u1,u2,u3,u4,u5,u6⟩:=bP G3.out;clear s2 b2 S0 A G0 HC n2 V0;unfold fR;go_wp2_with fail;have Z:=bS hP (Nat.le_refl _) S3.out B3.out G3.out (.int .i64 x.kind) (.int .i64 x.op) (.int .i64 x.num) (.string x.str) (.slice a1 x.names.length q1) (.slice a2 x.kids.length q2) (.int .i64 x.pl);exact bodyPost_ret (cJ rfl rfl Z.1) rfl ⟨⟨_,_,rfl,bE (Nat.le_succ _) (aY (cV w2 (Nat.lt_succ_self _) _ _ _ _ _ _ _) N3.out)⟩,Z.2.1,Z.2.2⟩
theorem PD (f:Nat) (hR:∀ g,g≤f→gS g) (P:Nat) (L l:List Tok) (w:World) (hf:20*l.length+(10 - 4)≤f) (H:Hid (PSt P L w l)) :
  Calls Tryz.prog 113 #[.pointer (some ⟨P,0,none⟩)] w (bR P L w ((aS f (4+1) l).bind fun e b l=>gI f 4 e b l)):=by
 have hP:=H.out.lt;have A1:=(Below.refl _ w).alloc (Nat.le_refl _) (.cells dK 26);have A2:=(Below.refl _ (w.alloc (.cells dK 26))).alloc (Nat.le_refl _) (.cells #[.string ⟨#[60]⟩,.string ⟨#[60,61]⟩,.string ⟨#[62]⟩,.string ⟨#[62,61]⟩] 9);have A:=aA (bB A1 A2);have S0:=aA (H.out.on A.out);have G0:=aA (aC (aI w 26 dK) A2);have V0:=aA (show JL (w.heap.size+1) ((w.alloc (.cells dK 26)).alloc (.cells #[.string ⟨#[60]⟩,.string ⟨#[60,61]⟩,.string ⟨#[62]⟩,.string ⟨#[62,61]⟩] 9)) (.slice (some ⟨w.heap.size+1,0,none⟩) 4 4) [⟨#[60]⟩,⟨#[60,61]⟩,⟨#[62]⟩,⟨#[62,61]⟩] from by
  have hb:=aI (w.alloc (.cells dK 26)) 9 #[.string ⟨#[60]⟩,.string ⟨#[60,61]⟩,.string ⟨#[62]⟩,.string ⟨#[62,61]⟩];simp only [World.size_alloc] at hb;refine .inr ⟨w.heap.size+1,0,4,rfl,⟨Nat.le_refl _,by simp⟩,fun i hi=>?_,Nat.le_refl _⟩;rw [aB hb];simp only [List.length_cons,List.length_nil] at hi
  rcases (show i=0∨i=1∨i=2∨i=3 by omega) with rfl | rfl | rfl | rfl<;>rfl)
 have HC:=aA (fun w' S V=>oI 4 _ (by omega) rfl (fun _ _=>by kernel_rfl) f hR (w.heap.size+1) P L l (.slice (some ⟨w.heap.size+1,0,none⟩) 4 4) w' hf (by omega) S V);unfold dK at *
 clear H hR A1 A2;cases hq:(aS f (4+1) l).bind fun e b l=>gI f 4 e b l with
 | bad l'=>
  simp only [hq] at HC;go_enter Tryz.func113,Tryz.ntmps113;go_wp2_with fail;refine (HC.out _ S0 V0).mono ?_;rintro e w2 ⟨rfl,s2,b2⟩;have S2:=aA s2;have B2:=aA ((But.of A.out).trans b2);clear s2 b2 S0 A G0 HC V0;unfold aV;go_wp2_with fail;exact⟨rfl,rfl,S2.out,B2.out⟩
 | ok x b l'=>
  simp only [hq] at HC;go_enter Tryz.func113,Tryz.ntmps113;go_wp2_with fail;refine (HC.out _ S0 V0).mono ?_;rintro e w2 ⟨⟨nv,kv,rfl,n2⟩,s2,b2⟩;obtain⟨a1,q1,a2,q2,rfl,rfl⟩:=aP n2;have S3:=aA s2;have N3:=aA (bE (lo':=w.heap.size+1) (by simp) n2);have B3:=aA ((But.of A.out).trans b2);have G3:=aA (aD G0.out b2 (by omega));have hg3:=aF G3.out;obtain⟨r0,r1,r2,r3,r4,r5,r6⟩:=aN G3.out;obtain⟨u0,u1,u2,u3,u4,u5,u6⟩:=bP G3.out;clear s2 b2 S0 A G0 HC n2 V0;unfold fR;go_wp2_with fail;have Z:=bS hP (Nat.le_refl _) S3.out B3.out G3.out (.int .i64 x.kind) (.int .i64 x.op) (.int .i64 x.num) (.string x.str) (.slice a1 x.names.length q1) (.slice a2 x.kids.length q2) (.int .i64 x.pl);exact bodyPost_ret (cJ rfl rfl Z.1) rfl ⟨⟨_,_,rfl,bE (Nat.le_succ _) (aY (cV w2 (Nat.lt_succ_self _) _ _ _ _ _ _ _) N3.out)⟩,Z.2.1,Z.2.2⟩
theorem PE (f:Nat) (hR:∀ g,g≤f→gS g) (P:Nat) (L l:List Tok) (w:World) (hf:20*l.length+(10 - 5)≤f) (H:Hid (PSt P L w l)) :
  Calls Tryz.prog 140 #[.pointer (some ⟨P,0,none⟩)] w (bR P L w ((aS f (5+1) l).bind fun e b l=>gI f 5 e b l)):=by
 have hP:=H.out.lt;have A1:=(Below.refl _ w).alloc (Nat.le_refl _) (.cells dK 26);have A2:=(Below.refl _ (w.alloc (.cells dK 26))).alloc (Nat.le_refl _) (.cells #[.string ⟨#[43]⟩,.string ⟨#[45]⟩] 9);have A:=aA (bB A1 A2);have S0:=aA (H.out.on A.out);have G0:=aA (aC (aI w 26 dK) A2);have V0:=aA (show JL (w.heap.size+1) ((w.alloc (.cells dK 26)).alloc (.cells #[.string ⟨#[43]⟩,.string ⟨#[45]⟩] 9)) (.slice (some ⟨w.heap.size+1,0,none⟩) 2 2) [⟨#[43]⟩,⟨#[45]⟩] from by
  have hb:=aI (w.alloc (.cells dK 26)) 9 #[.string ⟨#[43]⟩,.string ⟨#[45]⟩];simp only [World.size_alloc] at hb;refine .inr ⟨w.heap.size+1,0,2,rfl,⟨Nat.le_refl _,by simp⟩,fun i hi=>?_,Nat.le_refl _⟩;rw [aB hb];simp only [List.length_cons,List.length_nil] at hi
  rcases (show i=0∨i=1 by omega) with rfl | rfl<;>rfl)
 have HC:=aA (fun w' S V=>oI 5 _ (by omega) rfl (fun _ _=>by kernel_rfl) f hR (w.heap.size+1) P L l (.slice (some ⟨w.heap.size+1,0,none⟩) 2 2) w' hf (by omega) S V);unfold dK at *
 clear H hR A1 A2;cases hq:(aS f (5+1) l).bind fun e b l=>gI f 5 e b l with
 | bad l'=>
  simp only [hq] at HC;go_enter Tryz.func140,Tryz.ntmps140;go_wp2_with fail;refine (HC.out _ S0 V0).mono ?_;rintro e w2 ⟨rfl,s2,b2⟩;have S2:=aA s2;have B2:=aA ((But.of A.out).trans b2);clear s2 b2 S0 A G0 HC V0;unfold aV;go_wp2_with fail;exact⟨rfl,rfl,S2.out,B2.out⟩
 | ok x b l'=>
  simp only [hq] at HC;go_enter Tryz.func140,Tryz.ntmps140;go_wp2_with fail;refine (HC.out _ S0 V0).mono ?_;rintro e w2 ⟨⟨nv,kv,rfl,n2⟩,s2,b2⟩;obtain⟨a1,q1,a2,q2,rfl,rfl⟩:=aP n2;have S3:=aA s2;have N3:=aA (bE (lo':=w.heap.size+1) (by simp) n2);have B3:=aA ((But.of A.out).trans b2);have G3:=aA (aD G0.out b2 (by omega));have hg3:=aF G3.out;obtain⟨r0,r1,r2,r3,r4,r5,r6⟩:=aN G3.out;obtain⟨u0,u1,u2,u3,u4,u5,u6⟩:=bP G3.out;clear s2 b2 S0 A G0 HC n2 V0;unfold fR;go_wp2_with fail;have Z:=bS hP (Nat.le_refl _) S3.out B3.out G3.out (.int .i64 x.kind) (.int .i64 x.op) (.int .i64 x.num) (.string x.str) (.slice a1 x.names.length q1) (.slice a2 x.kids.length q2) (.int .i64 x.pl);exact bodyPost_ret (cJ rfl rfl Z.1) rfl ⟨⟨_,_,rfl,bE (Nat.le_succ _) (aY (cV w2 (Nat.lt_succ_self _) _ _ _ _ _ _ _) N3.out)⟩,Z.2.1,Z.2.2⟩
theorem PF (f:Nat) (hR:∀ g,g≤f→gS g) (P:Nat) (L l:List Tok) (w:World) (hf:20*l.length+(10 - 6)≤f) (H:Hid (PSt P L w l)) :
  Calls Tryz.prog 162 #[.pointer (some ⟨P,0,none⟩)] w (bR P L w ((aS f (6+1) l).bind fun e b l=>gI f 6 e b l)):=by
 have hP:=H.out.lt;have A1:=(Below.refl _ w).alloc (Nat.le_refl _) (.cells dK 26);have A2:=(Below.refl _ (w.alloc (.cells dK 26))).alloc (Nat.le_refl _) (.cells #[.string ⟨#[42]⟩,.string ⟨#[47]⟩,.string ⟨#[37]⟩] 9);have A:=aA (bB A1 A2);have S0:=aA (H.out.on A.out);have G0:=aA (aC (aI w 26 dK) A2);have V0:=aA (show JL (w.heap.size+1) ((w.alloc (.cells dK 26)).alloc (.cells #[.string ⟨#[42]⟩,.string ⟨#[47]⟩,.string ⟨#[37]⟩] 9)) (.slice (some ⟨w.heap.size+1,0,none⟩) 3 3) [⟨#[42]⟩,⟨#[47]⟩,⟨#[37]⟩] from by
  have hb:=aI (w.alloc (.cells dK 26)) 9 #[.string ⟨#[42]⟩,.string ⟨#[47]⟩,.string ⟨#[37]⟩];simp only [World.size_alloc] at hb;refine .inr ⟨w.heap.size+1,0,3,rfl,⟨Nat.le_refl _,by simp⟩,fun i hi=>?_,Nat.le_refl _⟩;rw [aB hb];simp only [List.length_cons,List.length_nil] at hi
  rcases (show i=0∨i=1∨i=2 by omega) with rfl | rfl | rfl<;>rfl)
 have HC:=aA (fun w' S V=>oI 6 _ (by omega) rfl (fun _ _=>by kernel_rfl) f hR (w.heap.size+1) P L l (.slice (some ⟨w.heap.size+1,0,none⟩) 3 3) w' hf (by omega) S V);unfold dK at *
 clear H hR A1 A2;cases hq:(aS f (6+1) l).bind fun e b l=>gI f 6 e b l with
 | bad l'=>
  simp only [hq] at HC;go_enter Tryz.func162,Tryz.ntmps162;go_wp2_with fail;refine (HC.out _ S0 V0).mono ?_;rintro e w2 ⟨rfl,s2,b2⟩;have S2:=aA s2;have B2:=aA ((But.of A.out).trans b2);clear s2 b2 S0 A G0 HC V0;unfold aV;go_wp2_with fail;exact⟨rfl,rfl,S2.out,B2.out⟩
 | ok x b l'=>
  simp only [hq] at HC;go_enter Tryz.func162,Tryz.ntmps162;go_wp2_with fail;refine (HC.out _ S0 V0).mono ?_;rintro e w2 ⟨⟨nv,kv,rfl,n2⟩,s2,b2⟩;obtain⟨a1,q1,a2,q2,rfl,rfl⟩:=aP n2;have S3:=aA s2;have N3:=aA (bE (lo':=w.heap.size+1) (by simp) n2);have B3:=aA ((But.of A.out).trans b2);have G3:=aA (aD G0.out b2 (by omega));have hg3:=aF G3.out;obtain⟨r0,r1,r2,r3,r4,r5,r6⟩:=aN G3.out;obtain⟨u0,u1,u2,u3,u4,u5,u6⟩:=bP G3.out;clear s2 b2 S0 A G0 HC n2 V0;unfold fR;go_wp2_with fail;have Z:=bS hP (Nat.le_refl _) S3.out B3.out G3.out (.int .i64 x.kind) (.int .i64 x.op) (.int .i64 x.num) (.string x.str) (.slice a1 x.names.length q1) (.slice a2 x.kids.length q2) (.int .i64 x.pl);exact bodyPost_ret (cJ rfl rfl Z.1) rfl ⟨⟨_,_,rfl,bE (Nat.le_succ _) (aY (cV w2 (Nat.lt_succ_self _) _ _ _ _ _ _ _) N3.out)⟩,Z.2.1,Z.2.2⟩
end Go.Proofs.YtdnnmjhfidimcaaGreatDoor
