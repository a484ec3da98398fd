/- Two with a sign between them. Atoms of one token: a number, a text, a name. Whether what was read last is a place, or can become a value. -/
import Derived.Test.YtdnnmjhfidimcaaGreatDoorJoint13
namespace Go.Proofs.YtdnnmjhfidimcaaGreatDoor
set_option maxHeartbeats 3200000
set_option maxRecDepth 100000
open Go.RowKit
theorem FN {i j:Nat} (h1:1≤i) (h2:i<j) (h3:j≤11):(signT (i:Int)==signT (j:Int))=false:=by
 have key:∀ j:Nat,j≤11→∀ i:Nat,i<j→1≤i→(signT (i:Int)==signT (j:Int))=false:=by
  intro j hj;obtain rfl | rfl | rfl | rfl | rfl | rfl | rfl | rfl | rfl | rfl | rfl | rfl:j=0∨j=1∨j=2∨j=3∨j=4∨j=5∨j=6∨j=7∨j=8∨j=9∨j=10∨j=11:=by omega
  all_goals decide
 exact key j h3 i h2 h1
theorem Cv (o:Nat) (h1:1≤o) (h11:o≤11) (s:ByteArray) (hs:s.data.toList=signT (o:Int)) (B:Nat) (w:World) (hO:Hid (Ok B w)) :
  Calls Tryz.prog 112 #[.string s] w fun e w'=>e=.returned (.int .i64 (o:Int))∧w=w':=by
 have HS:=aA hs;clear hs;go_enter Tryz.func112,Tryz.ntmps112;go_wp2_with fail;go_loopw [3] (fun i wr=>∃ j:Nat,1≤j∧j≤o∧i=.int .i64 j∧w=wr) (fun i _=>12 - (intOf i).toNat)
 case atStart=>exact⟨1,Nat.le_refl _,h1,rfl,rfl⟩
 case round=>
  obtain⟨j,hj1,hjo,rfl,rfl⟩:=hrel;by_cases h:(j:Int)<11
  ·have hd:decide ((j:Int)<11)=true:=decide_eq_true h;rcases Nat.lt_or_ge j o with hlt | hge
   ·have hne:(signT (j:Int)==s.toList)=false:=by
     rw [Lib.toList_data,HS.out];exact FN hj1 hlt h11
    go_wp2_with fail;refine (qE (j:Int) B _ hO).mono ?_;rintro e w1 ⟨rfl,rfl⟩;generalize signT (j:Int)=sj at *
    go_wp2_with fail;go_roundw
    case rel=>exact⟨j+1,by omega,by omega,by go_num,trivial⟩
    case measure=>simp [intOf];omega
   ·have hjo':j=o:=by omega
    subst hjo';go_wp2_with fail;refine (qE (j:Int) B _ hO).mono ?_;rintro e w1 ⟨rfl,rfl⟩;have hne:(signT (j:Int)==s.toList)=true:=by rw [Lib.toList_data,HS.out];simp
    generalize signT (j:Int)=sj at *
    go_wp2_with fail;go_ret;exact⟨rfl,rfl⟩
  ·have hd:decide ((j:Int)<11)=false:=decide_eq_false h;have hjo':j=o:=by omega
   subst hjo';go_wp2_with fail;go_ret;exact⟨rfl,rfl⟩
theorem zM (w:World) (o1 o2 o5:Obj) (T T':TypeId) (c3 c4:Array Value) :
  dP (w.heap.size+1+1) T c3 (((((w.alloc o1).alloc o2).alloc (.cells c3 T)).alloc (.cells c4 T')).alloc o5)∧dP (w.heap.size+1+1+1) T' c4 (((((w.alloc o1).alloc o2).alloc (.cells c3 T)).alloc (.cells c4 T')).alloc o5)∧
   Below w.heap.size w (((((w.alloc o1).alloc o2).alloc (.cells c3 T)).alloc (.cells c4 T')).alloc o5)∧w.heap.size+1+1+1<(((((w.alloc o1).alloc o2).alloc (.cells c3 T)).alloc (.cells c4 T')).alloc o5).heap.size:=by
 have b1:=(Below.refl _ w).alloc (Nat.le_refl _) o1;have b2:=(Below.refl _ (w.alloc o1)).alloc (Nat.le_refl _) o2;have b3:=(Below.refl _ ((w.alloc o1).alloc o2)).alloc (Nat.le_refl _) (.cells c3 T);have b4:=(Below.refl _ (((w.alloc o1).alloc o2).alloc (.cells c3 T))).alloc (Nat.le_refl _) (.cells c4 T');have b5:=(Below.refl _ ((((w.alloc o1).alloc o2).alloc (.cells c3 T)).alloc (.cells c4 T'))).alloc (Nat.le_refl _) o5;have h3:=aC (aC (aI ((w.alloc o1).alloc o2) T c3) b4) b5;have h4:=aC (aI (((w.alloc o1).alloc o2).alloc (.cells c3 T)) T' c4) b5;simp only [World.size_alloc] at h3 h4;exact⟨h3,h4,bB (bB (bB (bB b1 b2) b3) b4) b5,by simp⟩
theorem zP {ok:Nat→Prop} {x y:Nd} {nv kv nv' kv':Value} {w W:World} (k o:Int) {g:Nat} {T:TypeId} (N1:rI ok w x nv kv) (N2:rI ok w y nv' kv') (hg:ok g) (hgW:g<W.heap.size) (b:Below w.heap.size w W)
  (hb:dP g T #[.int .i64 x.kind,.int .i64 x.op,.int .i64 x.num,.string x.str,nv,kv,.int .i64 x.pl,.int .i64 y.kind,.int .i64 y.op,.int .i64 y.num,.string y.str,nv',kv',.int .i64 y.pl] W) :
  rI ok W (gK k o [x,y]) (.slice none 0 0) (.slice (some ⟨g,0,none⟩) 2 2):=
 pF ⟨.inl ⟨_,_,rfl,rfl⟩,wI ⟨hg,hgW⟩ hb (aU (aT b) N1) (aU (aT b) N2)⟩
theorem Oa (ok:Nat→Prop) (x y:Nd) (nv kv nv' kv':Value) (w:World) (hok:∀ b,w.heap.size≤b→ok b) (N1:Hid (rI ok w x nv kv)) (N2:Hid (rI ok w y nv' kv')) :
  Calls Tryz.prog 70 #[fR x nv kv,.string ⟨#[124,124]⟩,fR y nv' kv'] w fun e w'=>(∃ nv'' kv'',e=.returned (fR (gK 12 0 [x,y]) nv'' kv'')∧rI ok w' (gK 12 0 [x,y]) nv'' kv'')∧Below w.heap.size w w':=by
 obtain⟨a1,q1,a2,q2,rfl,rfl⟩:=hM N1.out;obtain⟨a3,q3,a4,q4,rfl,rfl⟩:=hM N2.out;unfold fR;go_enter Tryz.func70,Tryz.ntmps70;go_wp2_with fail;obtain⟨h3,h4,hb,hz⟩:=zM w (.cells #[.int .i64 x.kind,.int .i64 x.op,.int .i64 x.num,.string x.str,.slice a1 x.names.length q1,.slice a2 x.kids.length q2,.int .i64 x.pl] 26) (.cells #[.int .i64 y.kind,.int .i64 y.op,.int .i64 y.num,.string y.str,.slice a3 y.names.length q3,.slice a4 y.kids.length q4,.int .i64 y.pl] 26) (.cells #[.int .i64 12,.int .i64 0,.int .i64 0,.string ⟨#[]⟩,.slice none 0 0,.slice (some ⟨w.heap.size+1+1+1,0,none⟩) 2 2,.int .i64 0] 26) 26 26 #[.int .i64 12,.int .i64 0,.int .i64 0,.string ⟨#[]⟩,.slice none 0 0,.slice (some ⟨w.heap.size+1+1+1,0,none⟩) 2 2,.int .i64 0] #[.int .i64 x.kind,.int .i64 x.op,.int .i64 x.num,.string x.str,.slice a1 x.names.length q1,.slice a2 x.kids.length q2,.int .i64 x.pl,.int .i64 y.kind,.int .i64 y.op,.int .i64 y.num,.string y.str,.slice a3 y.names.length q3,.slice a4 y.kids.length q4,.int .i64 y.pl];exact bodyPost_ret (cJ rfl rfl h3) rfl ⟨⟨_,_,rfl,zP 12 0 N1.out N2.out (hok _ (by omega)) hz hb h4⟩,hb⟩
theorem LV (ok:Nat→Prop) (x y:Nd) (nv kv nv' kv':Value) (w:World) (hok:∀ b,w.heap.size≤b→ok b) (N1:Hid (rI ok w x nv kv)) (N2:Hid (rI ok w y nv' kv')) :
  Calls Tryz.prog 70 #[fR x nv kv,.string ⟨#[38,38]⟩,fR y nv' kv'] w fun e w'=>(∃ nv'' kv'',e=.returned (fR (gK 11 0 [x,y]) nv'' kv'')∧rI ok w' (gK 11 0 [x,y]) nv'' kv'')∧Below w.heap.size w w':=by
 obtain⟨a1,q1,a2,q2,rfl,rfl⟩:=hM N1.out;obtain⟨a3,q3,a4,q4,rfl,rfl⟩:=hM N2.out;unfold fR;go_enter Tryz.func70,Tryz.ntmps70;go_wp2_with fail;obtain⟨h3,h4,hb,hz⟩:=zM w (.cells #[.int .i64 x.kind,.int .i64 x.op,.int .i64 x.num,.string x.str,.slice a1 x.names.length q1,.slice a2 x.kids.length q2,.int .i64 x.pl] 26) (.cells #[.int .i64 y.kind,.int .i64 y.op,.int .i64 y.num,.string y.str,.slice a3 y.names.length q3,.slice a4 y.kids.length q4,.int .i64 y.pl] 26) (.cells #[.int .i64 11,.int .i64 0,.int .i64 0,.string ⟨#[]⟩,.slice none 0 0,.slice (some ⟨w.heap.size+1+1+1,0,none⟩) 2 2,.int .i64 0] 26) 26 26 #[.int .i64 11,.int .i64 0,.int .i64 0,.string ⟨#[]⟩,.slice none 0 0,.slice (some ⟨w.heap.size+1+1+1,0,none⟩) 2 2,.int .i64 0] #[.int .i64 x.kind,.int .i64 x.op,.int .i64 x.num,.string x.str,.slice a1 x.names.length q1,.slice a2 x.kids.length q2,.int .i64 x.pl,.int .i64 y.kind,.int .i64 y.op,.int .i64 y.num,.string y.str,.slice a3 y.names.length q3,.slice a4 y.kids.length q4,.int .i64 y.pl];exact bodyPost_ret (cJ rfl rfl h3) rfl ⟨⟨_,_,rfl,zP 11 0 N1.out N2.out (hok _ (by omega)) hz hb h4⟩,hb⟩
theorem JM (o:Nat) (h1:1≤o) (h11:o≤11) (s:ByteArray) (hs:s.data.toList=signT (o:Int)) (B:Nat) (ok:Nat→Prop) (x y:Nd) (nv kv nv' kv':Value) (w:World) (hO:Hid (Ok B w)) (hok:∀ b,w.heap.size≤b→ok b) (N1:Hid (rI ok w x nv kv)) (N2:Hid (rI ok w y nv' kv')) :
  Calls Tryz.prog 70 #[fR x nv kv,.string s,fR y nv' kv'] w fun e w'=>(∃ nv'' kv'',e=.returned (fR (gK 10 o [x,y]) nv'' kv'')∧rI ok w' (gK 10 o [x,y]) nv'' kv'')∧Below w.heap.size w w':=by
 obtain⟨a1,q1,a2,q2,rfl,rfl⟩:=hM N1.out;obtain⟨a3,q3,a4,q4,rfl,rfl⟩:=hM N2.out;have e1:(s.toList==[124,124])=false:=by
  rw [Lib.toList_data,hs];obtain rfl | rfl | rfl | rfl | rfl | rfl | rfl | rfl | rfl | rfl | rfl:o=1∨o=2∨o=3∨o=4∨o=5∨o=6∨o=7∨o=8∨o=9∨o=10∨o=11:=by omega
  all_goals decide
 have e2:(s.toList==[38,38])=false:=by
  rw [Lib.toList_data,hs];obtain rfl | rfl | rfl | rfl | rfl | rfl | rfl | rfl | rfl | rfl | rfl:o=1∨o=2∨o=3∨o=4∨o=5∨o=6∨o=7∨o=8∨o=9∨o=10∨o=11:=by omega
  all_goals decide
 have HS:=aA hs;clear hs;unfold fR;have A1:=(Below.refl _ w).alloc (Nat.le_refl _) (.cells #[.int .i64 x.kind,.int .i64 x.op,.int .i64 x.num,.string x.str,.slice a1 x.names.length q1,.slice a2 x.kids.length q2,.int .i64 x.pl] 26);clear A1;go_enter Tryz.func70,Tryz.ntmps70;go_wp2_with fail;refine (Cv o h1 h11 s HS.out B _ (aA (aR hO.out ?_))).mono ?_
 ·exact ((((((Below.refl B w).alloc hO.out.1 _).alloc (by simp;have:=hO.out.1;omega) _).alloc (by simp;have:=hO.out.1;omega) _).alloc (by simp;have:=hO.out.1;omega) _).alloc (by simp;have:=hO.out.1;omega) _)
 rintro e w1 ⟨rfl,rfl⟩;go_wp2_with fail;obtain⟨h3,h4,hb,hz⟩:=zM w (.cells #[.int .i64 x.kind,.int .i64 x.op,.int .i64 x.num,.string x.str,.slice a1 x.names.length q1,.slice a2 x.kids.length q2,.int .i64 x.pl] 26) (.cells #[.int .i64 y.kind,.int .i64 y.op,.int .i64 y.num,.string y.str,.slice a3 y.names.length q3,.slice a4 y.kids.length q4,.int .i64 y.pl] 26) (.cells #[.int .i64 10,.int .i64 o,.int .i64 0,.string ⟨#[]⟩,.slice none 0 0,.slice (some ⟨w.heap.size+1+1+1,0,none⟩) 2 2,.int .i64 0] 26) 26 26 #[.int .i64 10,.int .i64 o,.int .i64 0,.string ⟨#[]⟩,.slice none 0 0,.slice (some ⟨w.heap.size+1+1+1,0,none⟩) 2 2,.int .i64 0] #[.int .i64 x.kind,.int .i64 x.op,.int .i64 x.num,.string x.str,.slice a1 x.names.length q1,.slice a2 x.kids.length q2,.int .i64 x.pl,.int .i64 y.kind,.int .i64 y.op,.int .i64 y.num,.string y.str,.slice a3 y.names.length q3,.slice a4 y.kids.length q4,.int .i64 y.pl];exact bodyPost_ret (cJ rfl rfl h3) rfl ⟨⟨_,_,rfl,zP 10 o N1.out N2.out (hok _ (by omega)) hz hb h4⟩,hb⟩
theorem Mm (P:Nat) (L:List Tok) (x:ByteArray) (n p:Int) (r:List Tok) (w:World) (H:Hid (PSt P L w (⟨3,x,n,p⟩::r))) :
  Calls Tryz.prog 172 #[.pointer (some ⟨P,0,none⟩)] w (bR P L w (.ok (.mk 3 0 n bz [] [] 0) false r)):=by
 have A:=aA ((Below.refl _ w).alloc (Nat.le_refl _) (.cells dK 26));have S0:=aA (H.out.on A.out);have G0:=aA (aI w 26 dK);have hP:=H.out.lt;have HC:=aA (cU P L (⟨3,x,n,p⟩::r) _ S0);unfold Tok.val cur at HC;simp only [List.headD_cons] at HC;unfold dK at *
 clear H;go_enter Tryz.func172,Tryz.ntmps172;go_wp2_with fail;refine HC.out.mono ?_;rintro e w1 ⟨rfl,b1⟩;have S1:=aA (S0.out.on b1);have B1:=aA (But.of (P:=P) (aH A.out (Nat.le_refl _) b1));have G1:=aA (aC G0.out b1);have hg1:=aF G1.out;clear b1 S0 A G0 HC;obtain⟨R,cap,i,hR,hP1,hi,hcap,h601,hil,d0,d1,dz,c0,c1,c2,c3⟩:=S1.out.here;have HST:=aA (show ∀ v,v=.int .i64 ((i:Int)+1)→∀ w',w'=w1.setCell ⟨P,1,none⟩ v→PSt P L w' r∧But P w1 w' from fun v hv w' hw=>S1.out.step (by simp) (by
  rw [hv];congr 1;have:(⟨3,x,n,p⟩::r:List Tok).length≤L.length:=S1.out.suf.length_le;simp only [List.length_cons] at this hil ⊢
  omega) hw)
 have hPg:P≠w.heap.size:=by omega
 obtain⟨r0,r1,r2,r3,r4,r5,r6⟩:=aN G1.out;obtain⟨u0,u1,u2,u3,u4,u5,u6⟩:=bP G1.out;clear hil S1;go_wp2_with fail;have Z:=HST.out _ rfl _ rfl;have G2:=aD G1.out Z.2 (by omega);have Y:=iW (bS hP (Nat.le_refl _) Z.1 (B1.out.trans Z.2) G2 (.int .i64 3) (.int .i64 0) (.int .i64 n) (.string ⟨#[]⟩) (.slice none 0 0) (.slice none 0 0) (.int .i64 0)) (.cells #[.int .i64 3,.string x,.int .i64 n,.int .i64 p] 67);exact bodyPost_ret (cJ rfl rfl Y.1) rfl ⟨⟨_,_,rfl,eN ⟨gF,qI⟩⟩,Y.2.1,Y.2.2⟩
theorem Mn (P:Nat) (L:List Tok) (x:ByteArray) (n p:Int) (r:List Tok) (w:World) (H:Hid (PSt P L w (⟨4,x,n,p⟩::r))) :
  Calls Tryz.prog 172 #[.pointer (some ⟨P,0,none⟩)] w (bR P L w (.ok (tN 4 x []) false r)):=by
 have A:=aA ((Below.refl _ w).alloc (Nat.le_refl _) (.cells dK 26));have S0:=aA (H.out.on A.out);have G0:=aA (aI w 26 dK);have hP:=H.out.lt;have HC:=aA (cU P L (⟨4,x,n,p⟩::r) _ S0);unfold Tok.val cur at HC;simp only [List.headD_cons] at HC;unfold dK at *
 clear H;go_enter Tryz.func172,Tryz.ntmps172;go_wp2_with fail;refine HC.out.mono ?_;rintro e w1 ⟨rfl,b1⟩;have S1:=aA (S0.out.on b1);have B1:=aA (But.of (P:=P) (aH A.out (Nat.le_refl _) b1));have G1:=aA (aC G0.out b1);have hg1:=aF G1.out;clear b1 S0 A G0 HC;obtain⟨R,cap,i,hR,hP1,hi,hcap,h601,hil,d0,d1,dz,c0,c1,c2,c3⟩:=S1.out.here;have HST:=aA (show ∀ v,v=.int .i64 ((i:Int)+1)→∀ w',w'=w1.setCell ⟨P,1,none⟩ v→PSt P L w' r∧But P w1 w' from fun v hv w' hw=>S1.out.step (by simp) (by
  rw [hv];congr 1;have:(⟨4,x,n,p⟩::r:List Tok).length≤L.length:=S1.out.suf.length_le;simp only [List.length_cons] at this hil ⊢
  omega) hw)
 have hPg:P≠w.heap.size:=by omega
 obtain⟨r0,r1,r2,r3,r4,r5,r6⟩:=aN G1.out;obtain⟨u0,u1,u2,u3,u4,u5,u6⟩:=bP G1.out;clear hil S1;go_wp2_with fail;have Z:=HST.out _ rfl _ rfl;have G2:=aD G1.out Z.2 (by omega);have Y:=iW (bS hP (Nat.le_refl _) Z.1 (B1.out.trans Z.2) G2 (.int .i64 4) (.int .i64 0) (.int .i64 0) (.string x) (.slice none 0 0) (.slice none 0 0) (.int .i64 0)) (.cells #[.int .i64 4,.string x,.int .i64 n,.int .i64 p] 67);exact bodyPost_ret (cJ rfl rfl Y.1) rfl ⟨⟨_,_,rfl,eN ⟨gF,qI⟩⟩,Y.2.1,Y.2.2⟩
theorem Ka (P:Nat) (L:List Tok) (x:ByteArray) (n p:Int) (r:List Tok) (w:World) (H:Hid (PSt P L w (⟨1,x,n,p⟩::r))) :
  Calls Tryz.prog 172 #[.pointer (some ⟨P,0,none⟩)] w (bR P L w (.ok (.mk 5 0 0 x [] [] p) true r)):=by
 have A:=aA ((Below.refl _ w).alloc (Nat.le_refl _) (.cells dK 26));have S0:=aA (H.out.on A.out);have G0:=aA (aI w 26 dK);have hP:=H.out.lt;have HC:=aA (cU P L (⟨1,x,n,p⟩::r) _ S0);unfold Tok.val cur at HC;simp only [List.headD_cons] at HC;unfold dK at *
 clear H;go_enter Tryz.func172,Tryz.ntmps172;go_wp2_with fail;refine HC.out.mono ?_;rintro e w1 ⟨rfl,b1⟩;have S1:=aA (S0.out.on b1);have B1:=aA (But.of (P:=P) (aH A.out (Nat.le_refl _) b1));have G1:=aA (aC G0.out b1);have hg1:=aF G1.out;clear b1 S0 A G0 HC;obtain⟨R,cap,i,hR,hP1,hi,hcap,h601,hil,d0,d1,dz,c0,c1,c2,c3⟩:=S1.out.here;have HST:=aA (show ∀ v,v=.int .i64 ((i:Int)+1)→∀ w',w'=w1.setCell ⟨P,1,none⟩ v→PSt P L w' r∧But P w1 w' from fun v hv w' hw=>S1.out.step (by simp) (by
  rw [hv];congr 1;have:(⟨1,x,n,p⟩::r:List Tok).length≤L.length:=S1.out.suf.length_le;simp only [List.length_cons] at this hil ⊢
  omega) hw)
 have hPg:P≠w.heap.size:=by omega
 obtain⟨r0,r1,r2,r3,r4,r5,r6⟩:=aN G1.out;obtain⟨u0,u1,u2,u3,u4,u5,u6⟩:=bP G1.out;clear hil S1;go_wp2_with fail;have Z:=HST.out _ rfl _ rfl;have G2:=aD G1.out Z.2 (by omega);have Y:=iW (bS hP (Nat.le_refl _) Z.1 (B1.out.trans Z.2) G2 (.int .i64 5) (.int .i64 0) (.int .i64 0) (.string x) (.slice none 0 0) (.slice none 0 0) (.int .i64 p)) (.cells #[.int .i64 1,.string x,.int .i64 n,.int .i64 p] 67);exact bodyPost_ret (cJ rfl rfl Y.1) rfl ⟨⟨_,_,rfl,eN ⟨gF,qI⟩⟩,Y.2.1,Y.2.2⟩
def plB (x:Nd) (u:Tok):Bool:=(x.kind==13||x.kind==14)&&!(u.text.data.toList==[41])
def QJ (x:Nd) (u:Tok):Bool:=plB x u||(x.kind==5&&!(u.text.data.toList==[41]))
theorem pG (P:Nat) (L l pre:List Tok) (u:Tok) (x:Nd) (a1 a2:Option Addr) (q1 q2:Nat) (w:World) (H:Hid (PSt P L w l)) (hp:pre++u::l=L) :
  Calls Tryz.prog 159 #[.pointer (some ⟨P,0,none⟩),fR x (.slice a1 x.names.length q1) (.slice a2 x.kids.length q2)] w fun e w'=>e=.returned (.bool (plB x u))∧Below w.heap.size w w':=by
 have A:=aA ((Below.refl _ w).alloc (Nat.le_refl _) (.cells (fL x (.slice a1 x.names.length q1) (.slice a2 x.kids.length q2)) 26));have S0:=aA (H.out.on A.out);have X0:=aA (aI w 26 (fL x (.slice a1 x.names.length q1) (.slice a2 x.kids.length q2)));have HB:=aA (fun w' (S:Hid (PSt P L w' l))=>rO P L l pre u w' S hp);unfold plB;generalize (u.text.data.toList==[41])=ub at *
 clear H hp;unfold fR;unfold fL at *
 generalize x.kind=k at *
 by_cases h13:k=13
 ·have h13':(k==13)=true:=by simp [h13]
  rw [h13',Bool.true_or,Bool.true_and];clear h13';subst h13;obtain⟨c0,c1,c2,c3,c4,c5,c6⟩:=aN X0.out;go_enter Tryz.func159,Tryz.ntmps159;go_wp2_with fail;refine (HB.out _ S0).mono ?_;rintro e w1 ⟨rfl,b1⟩;have A1:=aA (aH A.out (Nat.le_refl _) b1);clear b1 S0 A X0 HB;go_wp2_with fail;go_ret;exact⟨rfl,A1.out⟩
 ·have h13':(k==13)=false:=by simp [h13]
  by_cases h14:k=14
  ·have h14':(k==14)=true:=by simp [h14]
   rw [h13',h14',Bool.or_true,Bool.true_and];clear h13' h14' h13;subst h14;obtain⟨c0,c1,c2,c3,c4,c5,c6⟩:=aN X0.out;go_enter Tryz.func159,Tryz.ntmps159;go_wp2_with fail;refine (HB.out _ S0).mono ?_;rintro e w1 ⟨rfl,b1⟩;have A1:=aA (aH A.out (Nat.le_refl _) b1);clear b1 S0 A X0 HB;go_wp2_with fail;go_ret;exact⟨rfl,A1.out⟩
  ·have h14':(k==14)=false:=by simp [h14]
   rw [h13',h14',Bool.or_false,Bool.false_and];clear h13' h14';obtain⟨c0,c1,c2,c3,c4,c5,c6⟩:=aN X0.out;go_enter Tryz.func159,Tryz.ntmps159;go_wp2_with fail;go_ret;exact⟨rfl,A.out⟩
theorem tE (P:Nat) (L l pre:List Tok) (u:Tok) (x:Nd) (a1 a2:Option Addr) (q1 q2:Nat) (w:World) (H:Hid (PSt P L w l)) (hp:pre++u::l=L) :
  Calls Tryz.prog 133 #[.pointer (some ⟨P,0,none⟩),fR x (.slice a1 x.names.length q1) (.slice a2 x.kids.length q2)] w fun e w'=>e=.returned (.bool (QJ x u))∧Below w.heap.size w w':=by
 have A:=aA ((Below.refl _ w).alloc (Nat.le_refl _) (.cells (fL x (.slice a1 x.names.length q1) (.slice a2 x.kids.length q2)) 26));have S0:=aA (H.out.on A.out);have X0:=aA (aI w 26 (fL x (.slice a1 x.names.length q1) (.slice a2 x.kids.length q2)));have HB:=aA (fun w' (S:Hid (PSt P L w' l))=>rO P L l pre u w' S hp);have HQ:=aA (fun w' (S:Hid (PSt P L w' l))=>pG P L l pre u x a1 a2 q1 q2 w' S hp);unfold QJ;generalize plB x u=pb at *
 generalize (u.text.data.toList==[41])=ub at *
 clear H hp;unfold fR at *
 unfold fL at *
 generalize x.kind=k at *
 cases pb with
 | true=>
  rw [Bool.true_or];obtain⟨c0,c1,c2,c3,c4,c5,c6⟩:=aN X0.out;go_enter Tryz.func133,Tryz.ntmps133;go_wp2_with fail;refine (HQ.out _ S0).mono ?_;rintro e w1 ⟨rfl,b1⟩;have A1:=aA (aH A.out (Nat.le_refl _) b1);clear b1 S0 A X0 HB HQ;go_wp2_with fail;go_ret;exact⟨rfl,A1.out⟩
 | false=>
  rw [Bool.false_or];by_cases h5:k=5
  ·have h5':(k==5)=true:=by simp [h5]
   rw [h5',Bool.true_and];clear h5';subst h5;obtain⟨c0,c1,c2,c3,c4,c5,c6⟩:=aN X0.out;go_enter Tryz.func133,Tryz.ntmps133;go_wp2_with fail;refine (HQ.out _ S0).mono ?_;rintro e w1 ⟨rfl,b1⟩;have A1:=aA (aH A.out (Nat.le_refl _) b1);have S1:=aA (S0.out.on b1);have X1:=aA (aC X0.out b1);obtain⟨d0,d1,d2,d3,d4,d5,d6⟩:=aN X1.out;clear b1 S0 A X0 HQ c0 c1 c2 c3 c4 c5 c6;go_wp2_with fail;refine (HB.out _ S1).mono ?_;rintro e w2 ⟨rfl,b2⟩;have A2:=aA (aH A1.out (Nat.le_refl _) b2);clear b2 S1 A1 X1 HB d0 d1 d2 d3 d4 d5 d6;go_wp2_with fail;go_ret;exact⟨rfl,A2.out⟩
  ·have h5':(k==5)=false:=by simp [h5]
   rw [h5',Bool.false_and];clear h5';obtain⟨c0,c1,c2,c3,c4,c5,c6⟩:=aN X0.out;go_enter Tryz.func133,Tryz.ntmps133;go_wp2_with fail;refine (HQ.out _ S0).mono ?_;rintro e w1 ⟨rfl,b1⟩;have A1:=aA (aH A.out (Nat.le_refl _) b1);have X1:=aA (aC X0.out b1);obtain⟨d0,d1,d2,d3,d4,d5,d6⟩:=aN X1.out;clear b1 S0 A X0 HQ HB c0 c1 c2 c3 c4 c5 c6;go_wp2_with fail;go_ret;exact⟨rfl,A1.out⟩
end Go.Proofs.YtdnnmjhfidimcaaGreatDoor
