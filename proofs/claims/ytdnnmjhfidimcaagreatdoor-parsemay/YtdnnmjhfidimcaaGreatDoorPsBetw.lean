/- Parts with signs of one rank between them. -/
import Derived.Test.YtdnnmjhfidimcaaGreatDoorJoint10
import Derived.Test.YtdnnmjhfidimcaaGreatDoorJoint13
namespace Go.Proofs.YtdnnmjhfidimcaaGreatDoor
open Go.RowKit

def tzc (P:Nat) (L:List Tok) (w:World):Nat:=L.length - (intOf ((w.cell? ⟨P,1,none⟩).getD undef)).toNat
theorem nzc {P:Nat} {L l:List Tok} {w:World} (h:PSt P L w l):tzc P L w=l.length:=by
 obtain⟨R,cap,h1,h2,h3,h4⟩:=h.mem;have hl:=h.suf.length_le;unfold tzc;rw [aza h4];simp [intOf];omega
theorem Uzl {lo P:Nat} {w c:World} {v:Value} {ws:List ByteArray} (h:StR lo w v ws) (k:But P w c) (hp:P<lo):azb w.heap.size v ws c:=by
 have h2:Qzk (Own lo w) v ws c:=yzh (fun b hb=>⟨hb,k.block b hb.2 (by have:=hb.1;omega)⟩) h;rcases h2 with h | ⟨b,off,cap,h1,h2,h3,h4⟩
 ·exact .inl h
 ·exact .inr ⟨b,off,cap,h1,h2.2,h3,h4⟩
def Xzm (s:List (List UInt8×Int×Int)):List ByteArray:=s.map fun p=>⟨p.1.toArray⟩
theorem Vzl (l:List Tok):∀ s:List (List UInt8×Int×Int),(rzc (Xzm s) l=none→Tzg s l=none)∧∀ x,rzc (Xzm s) l=some x→∃ k o,Tzg s l=some (k,o)∧(x.data.toList,k,o)∈s
 | []=>⟨fun _=>rfl,fun x h=>by cases h⟩
 | (y,k,o)::r=>by
  have ih:=Vzl l r;have e:rzc (Xzm ((y,k,o)::r)) l=if isH l y then some ⟨y.toArray⟩ else rzc (Xzm r) l:=by
   unfold rzc Xzm;rw [List.map_cons,List.find?_cons];simp only;cases isH l y<;>rfl
  rw [e];cases hh:isH l y with
  | true=>
   refine⟨fun h=>by simp at h,fun x hx=>⟨k,o,by rw [Tzg,hh];rfl,?_⟩⟩;simp at hx;subst hx;simp
  | false=>
   refine⟨fun h=>by rw [Tzg,hh];exact ih.1 (by simpa using h),fun x hx=>?_⟩;obtain⟨k',o',h1,h2⟩:=ih.2 x (by simpa using hx);exact⟨k',o',by rw [Tzg,hh];exact h1,by simp [h2]⟩
theorem rzr {ws:List ByteArray} {l:List Tok} {x:ByteArray} (h:rzc ws l=some x):∃ t q,l=t::q∧isT t x.data.toList=true:=by
 have:=List.find?_some h;exact wza this
theorem Czz {t:Tok} {x:ByteArray} (h:isT t x.data.toList=true) (hr:rzb t=true):x.toList.isEmpty=false:=by
 rw [Lib.toList_data,← Nzl h];have h6:=wzp h;have hne:t.text.data.toList≠[]:=by
  unfold isT at h;rw [Bool.and_eq_true,Bool.or_eq_true,beq_iff_eq,beq_iff_eq] at h;unfold rzb at hr;rcases h.1 with h2 | h5
  ·rw [h2] at hr;simp at hr;intro e;rw [e] at hr;exact absurd hr.2 (by decide)
  ·rw [h5] at hr;simp at hr;intro e;rw [e] at hr;exact absurd hr.2 (by decide)
 cases hq:t.text.data.toList with
 | nil=>exact absurd hq hne
 | cons=>rfl
theorem uze {P:Nat} {L l:List Tok} {w:World} (h:PSt P L w l):GT l:=jzd h.ok.right h.suf
theorem zzp {s:ByteArray} {l:List UInt8} (h:s.data.toList=l):s=⟨l.toArray⟩:=by rw [← h]
def BtS (P:Nat) (L:List Tok) (r:Nat) (m:List Tok) (s:Value) (wr:World):Prop:=
 (s=.string ⟨#[]⟩∧kzf r m=none∧PSt P L wr m)∨∃ t q k o x,m=t::q∧s=.string x∧isT t x.data.toList=true∧rzb t=true∧kzf r m=some (k,o)∧(x.data.toList,k,o)∈sgR r∧PSt P L wr q
theorem lzj (r:Nat) (hr:(sgR r).length≤1000) (P:Nat) (L m:List Tok) (B:Nat) (v:Value) (w:World) (hB:B≤w.heap.size) (H:Hid (PSt P L w m)) (hV:Hid (azb B v (Xzm (sgR r)) w)) :
  Calls Tryz.prog 69 #[.pointer (some ⟨P,0,none⟩),v] w fun e w'=>∃ s,e=.returned s∧BtS P L r m s w'∧But P w w':=by
 have hl:(Xzm (sgR r)).length≤1000:=by unfold Xzm;simpa using hr
 have hfs:=Vzl m (sgR r);cases hfw:rzc (Xzm (sgR r)) m with
 | none=>
  refine (xzh P L m _ B v w hB H hV hl hfw).mono ?_;rintro e w' ⟨rfl,b⟩;exact⟨_,rfl,.inl ⟨rfl,hfs.1 hfw,H.out.on b⟩,But.of b⟩
 | some x=>
  obtain⟨t,q,rfl,ht⟩:=rzr hfw;obtain⟨k,o,h1,h2⟩:=hfs.2 x hfw;refine (Gzb P L t q _ x B v w hB H hV hl hfw).mono ?_;rintro e w' ⟨rfl,s',b⟩;exact⟨_,rfl,.inr ⟨t,q,k,o,x,rfl,rfl,ht,uze H.out t (by simp),h1,h2,s'⟩,b⟩

theorem kzo (r:Nat):(sgR r).length≤1000:=by
 unfold sgR;split<;>simp
theorem Azp {r:Nat} (hr:1≤r∧r≤6) {s:ByteArray} {k o:Int} (hin:(s.data.toList,k,o)∈sgR r) (B:Nat) (ok:Nat→Prop) (x y:Nd) (nv kv nv' kv':Value) (w:World) (hO:Hid (Ok B w)) (hok:∀ b,w.heap.size≤b→ok b) (N1:Hid (NdO ok w x nv kv)) (N2:Hid (NdO ok w y nv' kv')) :
  Calls Tryz.prog 70 #[ndv x nv kv,.string s,ndv y nv' kv'] w fun e w'=>(∃ nv'' kv'',e=.returned (ndv (ndO k o [x,y]) nv'' kv'')∧NdO ok w' (ndO k o [x,y]) nv'' kv'')∧Below w.heap.size w w':=by
 obtain rfl | rfl | h:r=1∨r=2∨3≤r:=by omega
 ·simp [sgR] at hin;obtain⟨h1,rfl,rfl⟩:=hin;obtain rfl:=zzp h1;exact hzy ok x y nv kv nv' kv' w hok N1 N2
 ·simp [sgR] at hin;obtain⟨h1,rfl,rfl⟩:=hin;obtain rfl:=zzp h1;exact mzw ok x y nv kv nv' kv' w hok N1 N2
 ·obtain⟨oo,ho1,ho2,rfl,rfl,hs⟩:∃ oo:Nat,1≤oo∧oo≤11∧k=10∧o=(oo:Int)∧s.data.toList=signT (oo:Int):=by
   obtain rfl | rfl | rfl | rfl:r=3∨r=4∨r=5∨r=6:=by omega
   ·simp [sgR] at hin;rcases hin with ⟨h1,rfl,rfl⟩ | ⟨h1,rfl,rfl⟩
    ·exact⟨10,by omega,by omega,rfl,rfl,h1⟩
    ·exact⟨11,by omega,by omega,rfl,rfl,h1⟩
   ·simp [sgR] at hin;rcases hin with ⟨h1,rfl,rfl⟩ | ⟨h1,rfl,rfl⟩ | ⟨h1,rfl,rfl⟩ | ⟨h1,rfl,rfl⟩
    ·exact⟨6,by omega,by omega,rfl,rfl,h1⟩
    ·exact⟨7,by omega,by omega,rfl,rfl,h1⟩
    ·exact⟨8,by omega,by omega,rfl,rfl,h1⟩
    ·exact⟨9,by omega,by omega,rfl,rfl,h1⟩
   ·simp [sgR] at hin;rcases hin with ⟨h1,rfl,rfl⟩ | ⟨h1,rfl,rfl⟩
    ·exact⟨1,by omega,by omega,rfl,rfl,h1⟩
    ·exact⟨2,by omega,by omega,rfl,rfl,h1⟩
   ·simp [sgR] at hin;rcases hin with ⟨h1,rfl,rfl⟩ | ⟨h1,rfl,rfl⟩ | ⟨h1,rfl,rfl⟩
    ·exact⟨3,by omega,by omega,rfl,rfl,h1⟩
    ·exact⟨4,by omega,by omega,rfl,rfl,h1⟩
    ·exact⟨5,by omega,by omega,rfl,rfl,h1⟩
  exact mzu oo ho1 ho2 s hs B ok x y nv kv nv' kv' w hO hok N1 N2

set_option linter.unusedSimpArgs false in
set_option maxHeartbeats 6400000 in
theorem Azg (r N:Nat) (hr:1≤r∧r≤6) (hN:tzz (r+1)=N) (hcf:∀ (args:Array Value) (w:World),(callFunc N args).run Tryz.prog w=.ok (.enter N args) w) (f:Nat) (hR:∀ g,g≤f→mzd g) (lo P:Nat) (L l:List Tok) (sv:Value) (w:World) (hf:20*l.length+(10 - r)≤f) (hlo:P<lo) (H:Hid (PSt P L w l)) (HV:Hid (StR lo w sv (Xzm (sgR r)))) :
  Calls Tryz.prog 44 #[.pointer (some ⟨P,0,none⟩),.func (.func N) #[.pointer (some ⟨P,0,none⟩)] #[],sv] w (Sza P L w ((rza f (r+1) l).bind fun e b l=>dzd f r e b l)):=by
 have A:=hid ((Below.refl _ w).alloc (Nat.le_refl _) (.cells znd 26));have S0:=hid (H.out.on A.out);have G0:=hid (iza w 26 znd);have hP:=H.out.lt;have HC:=hid (show ∀ w',Hid (PSt P L w' l)→Calls Tryz.prog N #[.pointer (some ⟨P,0,none⟩)] w' (Sza P L w' (rza f (r+1) l)) from fun w' S=>hN▸hR f (Nat.le_refl _) (r+1) P L l w' (by omega) (by omega) (by omega) S);have HM:=hid ((may f).rank (r+1) l (uze H.out));have HR:=hid (show ∀ g,g≤f→∀ (q:List Tok) (w':World),20*q.length+(10 - r)≤g→Hid (PSt P L w' q)→Calls Tryz.prog N #[.pointer (some ⟨P,0,none⟩)] w' (Sza P L w' (rza g (r+1) q)) from fun g hg q w' hq S=>hN▸hR g hg (r+1) P L q w' (by omega) (by omega) (by omega) S);unfold znd at *
 clear H hR;cases hq:rza f (r+1) l with
 | bad l'=>
  rw [hq] at HC;rw [PR.bind_bad];clear HM HR;go_enter Tryz.func44,Tryz.ntmps44;go_wp2_with fail;refine (HC.out _ S0).mono ?_;rintro e w2 ⟨rfl,s2,b2⟩;have S2:=hid s2;have B2:=hid ((But.of A.out).trans b2);clear s2 b2 S0 A G0 HC;unfold uza;go_wp2_with fail;exact⟨rfl,rfl,S2.out,B2.out⟩
 | ok x b l'=>
  rw [hq] at HC HM;rw [PR.bind_ok];have hm:l'.length+1≤l.length:=by
   obtain⟨_,pre,u,e,_⟩:=HM.out;rw [e];simp
  clear HM;go_enter Tryz.func44,Tryz.ntmps44;go_wp2_with fail;refine (HC.out _ S0).mono ?_;rintro e1 w1 ⟨⟨nv,kv,rfl,n1⟩,s1,b1⟩;obtain⟨a1,q1,a2,q2,rfl,rfl⟩:=pza n1;have hsz1:=b1.size;simp only [World.size_alloc] at hsz1;have AA:=(Below.refl _ w1).alloc (Nat.le_refl _) (.cells (ndc x (.slice a1 x.names.length q1) (.slice a2 x.kids.length q2)) 26);have S1:=hid (s1.on AA);have B1:=hid (((But.of A.out).trans b1).trans (But.of AA));have Z1:=hid (bza (dza G0.out b1 (by omega)) AA);have G1:=hid (iza w1 26 (ndc x (.slice a1 x.names.length q1) (.slice a2 x.kids.length q2)));have N1:=hid (tza (sza AA) (mze (ok:=fun b=>w.heap.size+1≤b∧b≠w1.heap.size) n1 (fun b h1 h2=>⟨by simpa using h1,by omega⟩)));clear b1 s1 n1 AA S0 A G0 HC hq;unfold ndv;unfold ndc at *
  have V1:=hid (Uzl HV.out B1.out hlo);have hl1:w.heap.size+1≤w1.heap.size:=hsz1;go_wp2_with fail;refine (lzj r (kzo r) P L l' w.heap.size sv _ (by simp;omega) S1 V1).mono ?_;rintro e3 w3 ⟨sv0,rfl,hbt,b3⟩;have BT:=hid hbt;have B3:=hid (B1.out.trans b3);have Z3:=hid (dza Z1.out b3 (by omega));have G3:=hid (dza G1.out b3 (by omega));have N3:=hid (tza (Hzb b3 (by omega)) N1.out);clear hbt b3 S1 B1 Z1 G1 N1 V1;go_wp2_with fail;go_loopw [8] (fun s wr=>∃ (g:Nat) (e:Nd) (c:Bool) (m:List Tok) (nv kv:Value),Hid (dzd f r x b l'=dzd g r e c m)∧20*m.length+5≤g∧g≤f∧Hid (But P w wr)∧Hid (Blk w.heap.size 26 znd wr)∧Hid (Blk w1.heap.size 26 (ndc e nv kv) wr)∧Hid (NdO (fun b=>w.heap.size+1≤b∧b≠w1.heap.size) wr e nv kv)∧Hid (BtS P L r m s wr)) (fun _ wr=>tzc P L wr)
  case atStart=>exact⟨f,x,b,l',_,_,(show Hid (_=_) from rfl),by omega,Nat.le_refl _,B3.out,Z3.out,G3.out,N3.out,BT.out⟩
  case round=>
   obtain⟨g,e,c,m,nv,kv,hpe,hgm,hgf,hB,hZ,hG,hN,hS⟩:=hrel;clear B3 Z3 G3 N3 BT;obtain⟨g,rfl⟩:∃ g',g=g'+1:=⟨g - 1,by omega⟩
   obtain⟨b1,p1,b2,p2,rfl,rfl⟩:=wzd hN.out;have hg0:=fza hZ.out;have hg1:=fza hG.out;unfold znd ndc at *
   rcases hS.out with ⟨rfl,hsn,hst⟩ | ⟨t,q,k,o,sx,rfl,rfl,hst,hrt,hsn,hin,hpq⟩
   ·have HE:=hid (hpe.out.trans (show dzd (g+1) r e c m=.ok e c m by rw [dzd,hsn]));have S4:=hid hst;obtain⟨r0,r1,r2,r3,r4,r5,r6⟩:=oza hG.out;obtain⟨z0,z1,z2,z3,z4,z5,z6⟩:=oza hZ.out;obtain⟨u0,u1,u2,u3,u4,u5,u6⟩:=Qza hZ.out;clear hpe hsn hst hS HR;go_wp2_with fail;have Z:=Tza hP (Nat.le_refl _) S4.out hB.out hZ.out (.int .i64 e.kind) (.int .i64 e.op) (.int .i64 e.num) (.string e.str) (.slice b1 e.names.length p1) (.slice b2 e.kids.length p2) (.int .i64 e.pl);refine bodyPost_ret (jzb rfl rfl Z.1) rfl ?_;rw [HE.out];exact⟨⟨_,_,rfl,dzi (tza (szc _ (by omega) _ _ _ _ _ _ _) hN.out) (fun b h=>by omega)⟩,Z.2.1,Z.2.2⟩
   ·have hxe:=Czz hst hrt;have HIN:=hid hin;have HE:=hid (hpe.out.trans (show dzd (g+1) r e c (t::q)=(rza g (r+1) q).bind fun e' _ l=>dzd g r (ndO k o [e,e']) false l by rw [dzd,hsn];rfl));have HMq:=hid ((may g).rank (r+1) q (uze hpq));have HCq:=hid (fun w' S=>HR.out g (by omega) q w' (by simp at hgm;omega) S);have S2:=hid hpq;clear hpe hsn hst hrt hS HR hin hpq;cases hqq:rza g (r+1) q with
    | bad m'=>
     rw [hqq] at HE HCq;rw [PR.bind_bad] at HE;obtain⟨r0,r1,r2,r3,r4,r5,r6⟩:=oza hG.out;go_wp2_with fail;refine wp_region_held_drew (S:=fun _=>True) (by kernel_rfl) trivial (fun hHeld=>?_);refine tkk 1 ?_;refine tkk 2 ?_;refine wpAnyH_ready (rs:=[0,3]) (by kernel_rfl) (by simp) ?_;refine AllReadyH.cons rfl (fun K hK=>?_) (AllReadyH.cons rfl (fun K hK=>?_) AllReadyH.nil)
     ·go_simp;refine hK.out _ _ trivial (fun hHeld=>?_);clear hK K;refine rdy 3 (fun K hK=>?_);have HK:=hid hK;clear hK;go_simp;refine (HCq.out _ (hid (S2.out.on (Below.refl _ _).drew))).mono ?_;rintro e5 w5 ⟨rfl,s5,b5⟩;have S5:=hid s5;have B5:=hid ((hB.out.trans (But.of (Below.refl _ _).drew)).trans b5);clear s5 b5 HK;unfold uza;go_wp2_with fail;refine⟨rfl,?_⟩;rw [HE.out];exact⟨rfl,S5.out,B5.out⟩
     ·have HK:=hid hK;clear hK;go_simp;refine (HCq.out _ (hid (S2.out.on (Below.refl _ _).drew))).mono ?_;rintro e5 w5 ⟨rfl,s5,b5⟩;have S5:=hid s5;have B5:=hid ((hB.out.trans (But.of (Below.refl _ _).drew)).trans b5);clear s5 b5 HK;unfold uza;go_wp2_with fail;refine⟨rfl,?_⟩;rw [HE.out];exact⟨rfl,S5.out,B5.out⟩
    | ok x2 c2 m'=>
     rw [hqq] at HE HCq HMq;rw [PR.bind_ok] at HE;have hm2:m'.length+1≤q.length:=by
      obtain⟨_,pre,u,e,_⟩:=HMq.out;rw [e];simp
     clear HMq;obtain⟨r0,r1,r2,r3,r4,r5,r6⟩:=oza hG.out;go_wp2_with fail;refine wp_region_held_drew (S:=fun _=>True) (by kernel_rfl) trivial (fun hHeld=>?_);refine tkk 1 ?_;refine tkk 2 ?_;refine wpAnyH_ready (rs:=[0,3]) (by kernel_rfl) (by simp) ?_;refine AllReadyH.cons rfl (fun K hK=>?_) (AllReadyH.cons rfl (fun K hK=>?_) AllReadyH.nil)
     ·go_simp;refine hK.out _ _ trivial (fun hHeld=>?_);clear hK K;refine rdy 3 (fun K hK=>?_);have HK:=hid hK;clear hK;go_simp;refine (HCq.out _ (hid (S2.out.on (Below.refl _ _).drew))).mono ?_;rintro e3 w3 ⟨⟨nv3,kv3,rfl,n3⟩,s3,b3⟩;obtain⟨f1,g1,f2,g2,rfl,rfl⟩:=pza n3;have DR:=(Below.refl wr.heap.size wr).drew;have S3:=hid s3;have B3:=hid ((hB.out.trans (But.of DR)).trans b3);have Z3:=hid (dza (bza hZ.out DR) b3 (by omega));have G3:=hid (dza (bza hG.out DR) b3 (by omega));have N3:=hid (tza (Hzb b3 (by omega)) (tza (sza DR) hN.out));have M3:=hid (mze (ok:=fun b=>w.heap.size+1≤b∧b≠w1.heap.size) n3 (fun b h1 h2=>by simp at h1;omega));have hz3:=b3.size;have hl3:∀ b,w3.heap.size≤b→w.heap.size+1≤b∧b≠w1.heap.size:=by intro b hb;simp at hz3;omega
      clear s3 b3 n3 DR;unfold ndv;simp only;refine HK.out.out _ _ trivial (fun hHeld=>?_);clear HK K;refine rdy 4 (fun K hK=>?_);have HK:=hid hK;clear hK;go_simp;refine (Azp hr HIN.out P _ e x2 _ _ _ _ _ (hid S3.out.sg) hl3 (hid N3.out) (hid M3.out)).mono ?_;rintro e4 w4 ⟨⟨nv4,kv4,rfl,n4⟩,b4⟩;obtain⟨c1,d1,c3,d3,rfl,rfl⟩:=wzd n4;have S4:=hid (S3.out.on b4);have B4:=hid (B3.out.trans (But.of b4));have Z4:=hid (bza Z3.out b4);have G4:=hid (bza G3.out b4);have N4:=hid n4;have hg4:=fza G4.out;obtain⟨s0,s1,s2,s3,s4,s5,s6⟩:=oza G4.out;obtain⟨u0,u1,u2,u3,u4,u5,u6⟩:=Qza G4.out;clear b4 n4 S3 B3 Z3 G3 N3 M3;unfold ndv;simp only;refine HK.out.out _ _ trivial (fun hHeld=>?_);clear HK K;refine rdy 5 (fun K hK=>?_);have HK:=hid hK;clear hK;go_simp;refine HK.out.out _ _ trivial (fun hHeld=>?_);clear HK K;refine wpAnyH_done (by kernel_rfl) ?_ _;have F:=Tza hP (by omega) S4.out B4.out G4.out (.int .i64 (ndO k o [e,x2]).kind) (.int .i64 (ndO k o [e,x2]).op) (.int .i64 (ndO k o [e,x2]).num) (.string (ndO k o [e,x2]).str) (.slice c1 (ndO k o [e,x2]).names.length d1) (.slice c3 (ndO k o [e,x2]).kids.length d3) (.int .i64 (ndO k o [e,x2]).pl);have Z5:=hid (Ezd (g:=w1.heap.size) Z4.out (by omega) (.int .i64 (ndO k o [e,x2]).kind) (.int .i64 (ndO k o [e,x2]).op) (.int .i64 (ndO k o [e,x2]).num) (.string (ndO k o [e,x2]).str) (.slice c1 (ndO k o [e,x2]).names.length d1) (.slice c3 (ndO k o [e,x2]).kids.length d3) (.int .i64 (ndO k o [e,x2]).pl));have N5:=hid (tza (szc (g:=w1.heap.size) w4 (by simp) (.int .i64 (ndO k o [e,x2]).kind) (.int .i64 (ndO k o [e,x2]).op) (.int .i64 (ndO k o [e,x2]).num) (.string (ndO k o [e,x2]).str) (.slice c1 (ndO k o [e,x2]).names.length d1) (.slice c3 (ndO k o [e,x2]).kids.length d3) (.int .i64 (ndO k o [e,x2]).pl)) N4.out);have G5:=hid F.1;have S5:=hid F.2.1;have B5:=hid F.2.2;have V5:=hid (Uzl HV.out F.2.2 hlo);have hz5:=F.2.2.size;clear F S4 B4 Z4 G4 N4 s0 s1 s2 s3 s4 s5 s6 u0 u1 u2 u3 u4 u5 u6 hHeld r0 r1 r2 r3 r4 r5 r6;unfold put7w at Z5 N5 G5 S5 B5 V5 hz5;obtain⟨w5,hw5⟩:∃ w5,(((((((w4.setCell ⟨w1.heap.size,0,none⟩ (.int .i64 (ndO k o [e,x2]).kind)).setCell ⟨w1.heap.size,1,none⟩ (.int .i64 (ndO k o [e,x2]).op)).setCell ⟨w1.heap.size,2,none⟩ (.int .i64 (ndO k o [e,x2]).num)).setCell ⟨w1.heap.size,3,none⟩ (.string (ndO k o [e,x2]).str)).setCell ⟨w1.heap.size,4,none⟩ (.slice c1 (ndO k o [e,x2]).names.length d1)).setCell ⟨w1.heap.size,5,none⟩ (.slice c3 (ndO k o [e,x2]).kids.length d3)).setCell ⟨w1.heap.size,6,none⟩ (.int .i64 (ndO k o [e,x2]).pl))=w5:=⟨_,rfl⟩
      rw [hw5] at Z5 N5 G5 S5 B5 V5 hz5 ⊢;clear hw5 hg4;go_wp2_with fail;refine (lzj r (kzo r) P L m' w.heap.size sv _ hz5 S5 V5).mono ?_;rintro e6 w6 ⟨sv6,rfl,hbt,b6⟩;have BT6:=hid hbt;have B6:=hid (B5.out.trans b6);have Z6:=hid (dza Z5.out b6 (by omega));have G6:=hid (dza G5.out b6 (by omega));have N6:=hid (tza (Hzb b6 (by omega)) N5.out);have HLE:=hid (show tzc P L w6<tzc P L wr by
       have h1:=nzc S2.out;have h2:tzc P L w6≤m'.length:=by
        rcases hbt with ⟨_,_,h⟩ | ⟨_,_,_,_,_,e,_,_,_,_,_,h⟩
        ·exact Nat.le_of_eq (nzc h)
        ·rw [nzc h,e];simp
       omega)
      clear hbt b6 S5 B5 Z5 G5 N5 V5 S2 hB hZ hG hN;go_wp2_with fail;go_roundw
      case rel=>exact⟨g,_,false,m',_,_,HE.out,by simp at hgm;omega,by omega,B6.out,Z6.out,G6.out,N6.out,BT6.out⟩
      case measure=>exact HLE.out
     ·have HK:=hid hK;clear hK;go_simp;refine (HCq.out _ (hid (S2.out.on (Below.refl _ _).drew))).mono ?_;rintro e3 w3 ⟨⟨nv3,kv3,rfl,n3⟩,s3,b3⟩;obtain⟨f1,g1,f2,g2,rfl,rfl⟩:=pza n3;have DR:=(Below.refl wr.heap.size wr).drew;have S3:=hid s3;have B3:=hid ((hB.out.trans (But.of DR)).trans b3);have Z3:=hid (dza (bza hZ.out DR) b3 (by omega));have G3:=hid (dza (bza hG.out DR) b3 (by omega));have N3:=hid (tza (Hzb b3 (by omega)) (tza (sza DR) hN.out));have M3:=hid (mze (ok:=fun b=>w.heap.size+1≤b∧b≠w1.heap.size) n3 (fun b h1 h2=>by simp at h1;omega));have hz3:=b3.size;have hl3:∀ b,w3.heap.size≤b→w.heap.size+1≤b∧b≠w1.heap.size:=by intro b hb;simp at hz3;omega
      clear s3 b3 n3 DR;unfold ndv;simp only;refine HK.out.out _ _ trivial (fun hHeld=>?_);clear HK K;obtain⟨t0,t1,t2,t3,t4,t5,t6⟩:=oza G3.out;refine rdy 0 (fun K hK=>?_);have HK:=hid hK;clear hK;go_simp;refine HK.out.out _ _ trivial (fun hHeld=>?_);clear HK K t0 t1 t2 t3 t4 t5 t6;refine rdy 4 (fun K hK=>?_);have HK:=hid hK;clear hK;go_simp;refine (Azp hr HIN.out P _ e x2 _ _ _ _ _ (hid S3.out.sg) hl3 (hid N3.out) (hid M3.out)).mono ?_;rintro e4 w4 ⟨⟨nv4,kv4,rfl,n4⟩,b4⟩;obtain⟨c1,d1,c3,d3,rfl,rfl⟩:=wzd n4;have S4:=hid (S3.out.on b4);have B4:=hid (B3.out.trans (But.of b4));have Z4:=hid (bza Z3.out b4);have G4:=hid (bza G3.out b4);have N4:=hid n4;have hg4:=fza G4.out;obtain⟨s0,s1,s2,s3,s4,s5,s6⟩:=oza G4.out;obtain⟨u0,u1,u2,u3,u4,u5,u6⟩:=Qza G4.out;clear b4 n4 S3 B3 Z3 G3 N3 M3;unfold ndv;simp only;refine HK.out.out _ _ trivial (fun hHeld=>?_);clear HK K;refine rdy 5 (fun K hK=>?_);have HK:=hid hK;clear hK;go_simp;refine HK.out.out _ _ trivial (fun hHeld=>?_);clear HK K;refine wpAnyH_done (by kernel_rfl) ?_ _;have F:=Tza hP (by omega) S4.out B4.out G4.out (.int .i64 (ndO k o [e,x2]).kind) (.int .i64 (ndO k o [e,x2]).op) (.int .i64 (ndO k o [e,x2]).num) (.string (ndO k o [e,x2]).str) (.slice c1 (ndO k o [e,x2]).names.length d1) (.slice c3 (ndO k o [e,x2]).kids.length d3) (.int .i64 (ndO k o [e,x2]).pl);have Z5:=hid (Ezd (g:=w1.heap.size) Z4.out (by omega) (.int .i64 (ndO k o [e,x2]).kind) (.int .i64 (ndO k o [e,x2]).op) (.int .i64 (ndO k o [e,x2]).num) (.string (ndO k o [e,x2]).str) (.slice c1 (ndO k o [e,x2]).names.length d1) (.slice c3 (ndO k o [e,x2]).kids.length d3) (.int .i64 (ndO k o [e,x2]).pl));have N5:=hid (tza (szc (g:=w1.heap.size) w4 (by simp) (.int .i64 (ndO k o [e,x2]).kind) (.int .i64 (ndO k o [e,x2]).op) (.int .i64 (ndO k o [e,x2]).num) (.string (ndO k o [e,x2]).str) (.slice c1 (ndO k o [e,x2]).names.length d1) (.slice c3 (ndO k o [e,x2]).kids.length d3) (.int .i64 (ndO k o [e,x2]).pl)) N4.out);have G5:=hid F.1;have S5:=hid F.2.1;have B5:=hid F.2.2;have V5:=hid (Uzl HV.out F.2.2 hlo);have hz5:=F.2.2.size;clear F S4 B4 Z4 G4 N4 s0 s1 s2 s3 s4 s5 s6 u0 u1 u2 u3 u4 u5 u6 hHeld r0 r1 r2 r3 r4 r5 r6;unfold put7w at Z5 N5 G5 S5 B5 V5 hz5;obtain⟨w5,hw5⟩:∃ w5,(((((((w4.setCell ⟨w1.heap.size,0,none⟩ (.int .i64 (ndO k o [e,x2]).kind)).setCell ⟨w1.heap.size,1,none⟩ (.int .i64 (ndO k o [e,x2]).op)).setCell ⟨w1.heap.size,2,none⟩ (.int .i64 (ndO k o [e,x2]).num)).setCell ⟨w1.heap.size,3,none⟩ (.string (ndO k o [e,x2]).str)).setCell ⟨w1.heap.size,4,none⟩ (.slice c1 (ndO k o [e,x2]).names.length d1)).setCell ⟨w1.heap.size,5,none⟩ (.slice c3 (ndO k o [e,x2]).kids.length d3)).setCell ⟨w1.heap.size,6,none⟩ (.int .i64 (ndO k o [e,x2]).pl))=w5:=⟨_,rfl⟩
      rw [hw5] at Z5 N5 G5 S5 B5 V5 hz5 ⊢;clear hw5 hg4;go_wp2_with fail;refine (lzj r (kzo r) P L m' w.heap.size sv _ hz5 S5 V5).mono ?_;rintro e6 w6 ⟨sv6,rfl,hbt,b6⟩;have BT6:=hid hbt;have B6:=hid (B5.out.trans b6);have Z6:=hid (dza Z5.out b6 (by omega));have G6:=hid (dza G5.out b6 (by omega));have N6:=hid (tza (Hzb b6 (by omega)) N5.out);have HLE:=hid (show tzc P L w6<tzc P L wr by
       have h1:=nzc S2.out;have h2:tzc P L w6≤m'.length:=by
        rcases hbt with ⟨_,_,h⟩ | ⟨_,_,_,_,_,e,_,_,_,_,_,h⟩
        ·exact Nat.le_of_eq (nzc h)
        ·rw [nzc h,e];simp
       omega)
      clear hbt b6 S5 B5 Z5 G5 N5 V5 S2 hB hZ hG hN;go_wp2_with fail;go_roundw
      case rel=>exact⟨g,_,false,m',_,_,HE.out,by simp at hgm;omega,by omega,B6.out,Z6.out,G6.out,N6.out,BT6.out⟩
      case measure=>exact HLE.out

set_option maxHeartbeats 3200000 in
theorem Dzz (f:Nat) (hR:∀ g,g≤f→mzd g) (P:Nat) (L l:List Tok) (w:World) (hf:20*l.length+(10 - 1)≤f) (H:Hid (PSt P L w l)) :
  Calls Tryz.prog 24 #[.pointer (some ⟨P,0,none⟩)] w (Sza P L w ((rza f (1+1) l).bind fun e b l=>dzd f 1 e b l)):=by
 have hP:=H.out.lt;have A1:=(Below.refl _ w).alloc (Nat.le_refl _) (.cells znd 26);have A2:=(Below.refl _ (w.alloc (.cells znd 26))).alloc (Nat.le_refl _) (.cells #[.string ⟨#[124,124]⟩] 9);have A:=hid (Dza A1 A2);have S0:=hid (H.out.on A.out);have G0:=hid (bza (iza w 26 znd) A2);have V0:=hid (show StR (w.heap.size+1) ((w.alloc (.cells znd 26)).alloc (.cells #[.string ⟨#[124,124]⟩] 9)) (.slice (some ⟨w.heap.size+1,0,none⟩) 1 1) [⟨#[124,124]⟩] from by
  have hb:=iza (w.alloc (.cells znd 26)) 9 #[.string ⟨#[124,124]⟩];simp only [World.size_alloc] at hb;refine .inr ⟨w.heap.size+1,0,1,rfl,⟨Nat.le_refl _,by simp⟩,fun i hi=>?_,Nat.le_refl _⟩;rw [aza hb];simp only [List.length_cons,List.length_nil] at hi
  rcases (show i=0 by omega) with rfl<;>rfl)
 have HC:=hid (fun w' S V=>Azg 1 _ (by omega) rfl (fun _ _=>by kernel_rfl) f hR (w.heap.size+1) P L l (.slice (some ⟨w.heap.size+1,0,none⟩) 1 1) w' hf (by omega) S V);unfold znd at *
 clear H hR A1 A2;cases hq:(rza f (1+1) l).bind fun e b l=>dzd f 1 e b l with
 | bad l'=>
  simp only [hq] at HC;go_enter Tryz.func24,Tryz.ntmps24;go_wp2_with fail;refine (HC.out _ S0 V0).mono ?_;rintro e w2 ⟨rfl,s2,b2⟩;have S2:=hid s2;have B2:=hid ((But.of A.out).trans b2);clear s2 b2 S0 A G0 HC V0;unfold uza;go_wp2_with fail;exact⟨rfl,rfl,S2.out,B2.out⟩
 | ok x b l'=>
  simp only [hq] at HC;go_enter Tryz.func24,Tryz.ntmps24;go_wp2_with fail;refine (HC.out _ S0 V0).mono ?_;rintro e w2 ⟨⟨nv,kv,rfl,n2⟩,s2,b2⟩;obtain⟨a1,q1,a2,q2,rfl,rfl⟩:=pza n2;have S3:=hid s2;have N3:=hid (Gza (lo':=w.heap.size+1) (by simp) n2);have B3:=hid ((But.of A.out).trans b2);have G3:=hid (dza G0.out b2 (by omega));have hg3:=fza G3.out;obtain⟨r0,r1,r2,r3,r4,r5,r6⟩:=oza G3.out;obtain⟨u0,u1,u2,u3,u4,u5,u6⟩:=Qza G3.out;clear s2 b2 S0 A G0 HC n2 V0;unfold ndv;go_wp2_with fail;have Z:=Tza hP (Nat.le_refl _) S3.out B3.out G3.out (.int .i64 x.kind) (.int .i64 x.op) (.int .i64 x.num) (.string x.str) (.slice a1 x.names.length q1) (.slice a2 x.kids.length q2) (.int .i64 x.pl);exact bodyPost_ret (jzb rfl rfl Z.1) rfl ⟨⟨_,_,rfl,Gza (Nat.le_succ _) (xza (yzb w2 (Nat.lt_succ_self _) _ _ _ _ _ _ _) N3.out)⟩,Z.2.1,Z.2.2⟩

set_option maxHeartbeats 3200000 in
theorem Ezz (f:Nat) (hR:∀ g,g≤f→mzd g) (P:Nat) (L l:List Tok) (w:World) (hf:20*l.length+(10 - 2)≤f) (H:Hid (PSt P L w l)) :
  Calls Tryz.prog 45 #[.pointer (some ⟨P,0,none⟩)] w (Sza P L w ((rza f (2+1) l).bind fun e b l=>dzd f 2 e b l)):=by
 have hP:=H.out.lt;have A1:=(Below.refl _ w).alloc (Nat.le_refl _) (.cells znd 26);have A2:=(Below.refl _ (w.alloc (.cells znd 26))).alloc (Nat.le_refl _) (.cells #[.string ⟨#[38,38]⟩] 9);have A:=hid (Dza A1 A2);have S0:=hid (H.out.on A.out);have G0:=hid (bza (iza w 26 znd) A2);have V0:=hid (show StR (w.heap.size+1) ((w.alloc (.cells znd 26)).alloc (.cells #[.string ⟨#[38,38]⟩] 9)) (.slice (some ⟨w.heap.size+1,0,none⟩) 1 1) [⟨#[38,38]⟩] from by
  have hb:=iza (w.alloc (.cells znd 26)) 9 #[.string ⟨#[38,38]⟩];simp only [World.size_alloc] at hb;refine .inr ⟨w.heap.size+1,0,1,rfl,⟨Nat.le_refl _,by simp⟩,fun i hi=>?_,Nat.le_refl _⟩;rw [aza hb];simp only [List.length_cons,List.length_nil] at hi
  rcases (show i=0 by omega) with rfl<;>rfl)
 have HC:=hid (fun w' S V=>Azg 2 _ (by omega) rfl (fun _ _=>by kernel_rfl) f hR (w.heap.size+1) P L l (.slice (some ⟨w.heap.size+1,0,none⟩) 1 1) w' hf (by omega) S V);unfold znd at *
 clear H hR A1 A2;cases hq:(rza f (2+1) l).bind fun e b l=>dzd f 2 e b l with
 | bad l'=>
  simp only [hq] at HC;go_enter Tryz.func45,Tryz.ntmps45;go_wp2_with fail;refine (HC.out _ S0 V0).mono ?_;rintro e w2 ⟨rfl,s2,b2⟩;have S2:=hid s2;have B2:=hid ((But.of A.out).trans b2);clear s2 b2 S0 A G0 HC V0;unfold uza;go_wp2_with fail;exact⟨rfl,rfl,S2.out,B2.out⟩
 | ok x b l'=>
  simp only [hq] at HC;go_enter Tryz.func45,Tryz.ntmps45;go_wp2_with fail;refine (HC.out _ S0 V0).mono ?_;rintro e w2 ⟨⟨nv,kv,rfl,n2⟩,s2,b2⟩;obtain⟨a1,q1,a2,q2,rfl,rfl⟩:=pza n2;have S3:=hid s2;have N3:=hid (Gza (lo':=w.heap.size+1) (by simp) n2);have B3:=hid ((But.of A.out).trans b2);have G3:=hid (dza G0.out b2 (by omega));have hg3:=fza G3.out;obtain⟨r0,r1,r2,r3,r4,r5,r6⟩:=oza G3.out;obtain⟨u0,u1,u2,u3,u4,u5,u6⟩:=Qza G3.out;clear s2 b2 S0 A G0 HC n2 V0;unfold ndv;go_wp2_with fail;have Z:=Tza hP (Nat.le_refl _) S3.out B3.out G3.out (.int .i64 x.kind) (.int .i64 x.op) (.int .i64 x.num) (.string x.str) (.slice a1 x.names.length q1) (.slice a2 x.kids.length q2) (.int .i64 x.pl);exact bodyPost_ret (jzb rfl rfl Z.1) rfl ⟨⟨_,_,rfl,Gza (Nat.le_succ _) (xza (yzb w2 (Nat.lt_succ_self _) _ _ _ _ _ _ _) N3.out)⟩,Z.2.1,Z.2.2⟩

set_option maxHeartbeats 3200000 in
theorem Fzz (f:Nat) (hR:∀ g,g≤f→mzd g) (P:Nat) (L l:List Tok) (w:World) (hf:20*l.length+(10 - 3)≤f) (H:Hid (PSt P L w l)) :
  Calls Tryz.prog 71 #[.pointer (some ⟨P,0,none⟩)] w (Sza P L w ((rza f (3+1) l).bind fun e b l=>dzd f 3 e b l)):=by
 have hP:=H.out.lt;have A1:=(Below.refl _ w).alloc (Nat.le_refl _) (.cells znd 26);have A2:=(Below.refl _ (w.alloc (.cells znd 26))).alloc (Nat.le_refl _) (.cells #[.string ⟨#[61,61]⟩,.string ⟨#[33,61]⟩] 9);have A:=hid (Dza A1 A2);have S0:=hid (H.out.on A.out);have G0:=hid (bza (iza w 26 znd) A2);have V0:=hid (show StR (w.heap.size+1) ((w.alloc (.cells znd 26)).alloc (.cells #[.string ⟨#[61,61]⟩,.string ⟨#[33,61]⟩] 9)) (.slice (some ⟨w.heap.size+1,0,none⟩) 2 2) [⟨#[61,61]⟩,⟨#[33,61]⟩] from by
  have hb:=iza (w.alloc (.cells znd 26)) 9 #[.string ⟨#[61,61]⟩,.string ⟨#[33,61]⟩];simp only [World.size_alloc] at hb;refine .inr ⟨w.heap.size+1,0,2,rfl,⟨Nat.le_refl _,by simp⟩,fun i hi=>?_,Nat.le_refl _⟩;rw [aza hb];simp only [List.length_cons,List.length_nil] at hi
  rcases (show i=0∨i=1 by omega) with rfl | rfl<;>rfl)
 have HC:=hid (fun w' S V=>Azg 3 _ (by omega) rfl (fun _ _=>by kernel_rfl) f hR (w.heap.size+1) P L l (.slice (some ⟨w.heap.size+1,0,none⟩) 2 2) w' hf (by omega) S V);unfold znd at *
 clear H hR A1 A2;cases hq:(rza f (3+1) l).bind fun e b l=>dzd f 3 e b l with
 | bad l'=>
  simp only [hq] at HC;go_enter Tryz.func71,Tryz.ntmps71;go_wp2_with fail;refine (HC.out _ S0 V0).mono ?_;rintro e w2 ⟨rfl,s2,b2⟩;have S2:=hid s2;have B2:=hid ((But.of A.out).trans b2);clear s2 b2 S0 A G0 HC V0;unfold uza;go_wp2_with fail;exact⟨rfl,rfl,S2.out,B2.out⟩
 | ok x b l'=>
  simp only [hq] at HC;go_enter Tryz.func71,Tryz.ntmps71;go_wp2_with fail;refine (HC.out _ S0 V0).mono ?_;rintro e w2 ⟨⟨nv,kv,rfl,n2⟩,s2,b2⟩;obtain⟨a1,q1,a2,q2,rfl,rfl⟩:=pza n2;have S3:=hid s2;have N3:=hid (Gza (lo':=w.heap.size+1) (by simp) n2);have B3:=hid ((But.of A.out).trans b2);have G3:=hid (dza G0.out b2 (by omega));have hg3:=fza G3.out;obtain⟨r0,r1,r2,r3,r4,r5,r6⟩:=oza G3.out;obtain⟨u0,u1,u2,u3,u4,u5,u6⟩:=Qza G3.out;clear s2 b2 S0 A G0 HC n2 V0;unfold ndv;go_wp2_with fail;have Z:=Tza hP (Nat.le_refl _) S3.out B3.out G3.out (.int .i64 x.kind) (.int .i64 x.op) (.int .i64 x.num) (.string x.str) (.slice a1 x.names.length q1) (.slice a2 x.kids.length q2) (.int .i64 x.pl);exact bodyPost_ret (jzb rfl rfl Z.1) rfl ⟨⟨_,_,rfl,Gza (Nat.le_succ _) (xza (yzb w2 (Nat.lt_succ_self _) _ _ _ _ _ _ _) N3.out)⟩,Z.2.1,Z.2.2⟩

set_option maxHeartbeats 3200000 in
theorem Gzz (f:Nat) (hR:∀ g,g≤f→mzd g) (P:Nat) (L l:List Tok) (w:World) (hf:20*l.length+(10 - 4)≤f) (H:Hid (PSt P L w l)) :
  Calls Tryz.prog 113 #[.pointer (some ⟨P,0,none⟩)] w (Sza P L w ((rza f (4+1) l).bind fun e b l=>dzd f 4 e b l)):=by
 have hP:=H.out.lt;have A1:=(Below.refl _ w).alloc (Nat.le_refl _) (.cells znd 26);have A2:=(Below.refl _ (w.alloc (.cells znd 26))).alloc (Nat.le_refl _) (.cells #[.string ⟨#[60]⟩,.string ⟨#[60,61]⟩,.string ⟨#[62]⟩,.string ⟨#[62,61]⟩] 9);have A:=hid (Dza A1 A2);have S0:=hid (H.out.on A.out);have G0:=hid (bza (iza w 26 znd) A2);have V0:=hid (show StR (w.heap.size+1) ((w.alloc (.cells znd 26)).alloc (.cells #[.string ⟨#[60]⟩,.string ⟨#[60,61]⟩,.string ⟨#[62]⟩,.string ⟨#[62,61]⟩] 9)) (.slice (some ⟨w.heap.size+1,0,none⟩) 4 4) [⟨#[60]⟩,⟨#[60,61]⟩,⟨#[62]⟩,⟨#[62,61]⟩] from by
  have hb:=iza (w.alloc (.cells znd 26)) 9 #[.string ⟨#[60]⟩,.string ⟨#[60,61]⟩,.string ⟨#[62]⟩,.string ⟨#[62,61]⟩];simp only [World.size_alloc] at hb;refine .inr ⟨w.heap.size+1,0,4,rfl,⟨Nat.le_refl _,by simp⟩,fun i hi=>?_,Nat.le_refl _⟩;rw [aza hb];simp only [List.length_cons,List.length_nil] at hi
  rcases (show i=0∨i=1∨i=2∨i=3 by omega) with rfl | rfl | rfl | rfl<;>rfl)
 have HC:=hid (fun w' S V=>Azg 4 _ (by omega) rfl (fun _ _=>by kernel_rfl) f hR (w.heap.size+1) P L l (.slice (some ⟨w.heap.size+1,0,none⟩) 4 4) w' hf (by omega) S V);unfold znd at *
 clear H hR A1 A2;cases hq:(rza f (4+1) l).bind fun e b l=>dzd f 4 e b l with
 | bad l'=>
  simp only [hq] at HC;go_enter Tryz.func113,Tryz.ntmps113;go_wp2_with fail;refine (HC.out _ S0 V0).mono ?_;rintro e w2 ⟨rfl,s2,b2⟩;have S2:=hid s2;have B2:=hid ((But.of A.out).trans b2);clear s2 b2 S0 A G0 HC V0;unfold uza;go_wp2_with fail;exact⟨rfl,rfl,S2.out,B2.out⟩
 | ok x b l'=>
  simp only [hq] at HC;go_enter Tryz.func113,Tryz.ntmps113;go_wp2_with fail;refine (HC.out _ S0 V0).mono ?_;rintro e w2 ⟨⟨nv,kv,rfl,n2⟩,s2,b2⟩;obtain⟨a1,q1,a2,q2,rfl,rfl⟩:=pza n2;have S3:=hid s2;have N3:=hid (Gza (lo':=w.heap.size+1) (by simp) n2);have B3:=hid ((But.of A.out).trans b2);have G3:=hid (dza G0.out b2 (by omega));have hg3:=fza G3.out;obtain⟨r0,r1,r2,r3,r4,r5,r6⟩:=oza G3.out;obtain⟨u0,u1,u2,u3,u4,u5,u6⟩:=Qza G3.out;clear s2 b2 S0 A G0 HC n2 V0;unfold ndv;go_wp2_with fail;have Z:=Tza hP (Nat.le_refl _) S3.out B3.out G3.out (.int .i64 x.kind) (.int .i64 x.op) (.int .i64 x.num) (.string x.str) (.slice a1 x.names.length q1) (.slice a2 x.kids.length q2) (.int .i64 x.pl);exact bodyPost_ret (jzb rfl rfl Z.1) rfl ⟨⟨_,_,rfl,Gza (Nat.le_succ _) (xza (yzb w2 (Nat.lt_succ_self _) _ _ _ _ _ _ _) N3.out)⟩,Z.2.1,Z.2.2⟩

set_option maxHeartbeats 3200000 in
theorem Hzz (f:Nat) (hR:∀ g,g≤f→mzd g) (P:Nat) (L l:List Tok) (w:World) (hf:20*l.length+(10 - 5)≤f) (H:Hid (PSt P L w l)) :
  Calls Tryz.prog 140 #[.pointer (some ⟨P,0,none⟩)] w (Sza P L w ((rza f (5+1) l).bind fun e b l=>dzd f 5 e b l)):=by
 have hP:=H.out.lt;have A1:=(Below.refl _ w).alloc (Nat.le_refl _) (.cells znd 26);have A2:=(Below.refl _ (w.alloc (.cells znd 26))).alloc (Nat.le_refl _) (.cells #[.string ⟨#[43]⟩,.string ⟨#[45]⟩] 9);have A:=hid (Dza A1 A2);have S0:=hid (H.out.on A.out);have G0:=hid (bza (iza w 26 znd) A2);have V0:=hid (show StR (w.heap.size+1) ((w.alloc (.cells znd 26)).alloc (.cells #[.string ⟨#[43]⟩,.string ⟨#[45]⟩] 9)) (.slice (some ⟨w.heap.size+1,0,none⟩) 2 2) [⟨#[43]⟩,⟨#[45]⟩] from by
  have hb:=iza (w.alloc (.cells znd 26)) 9 #[.string ⟨#[43]⟩,.string ⟨#[45]⟩];simp only [World.size_alloc] at hb;refine .inr ⟨w.heap.size+1,0,2,rfl,⟨Nat.le_refl _,by simp⟩,fun i hi=>?_,Nat.le_refl _⟩;rw [aza hb];simp only [List.length_cons,List.length_nil] at hi
  rcases (show i=0∨i=1 by omega) with rfl | rfl<;>rfl)
 have HC:=hid (fun w' S V=>Azg 5 _ (by omega) rfl (fun _ _=>by kernel_rfl) f hR (w.heap.size+1) P L l (.slice (some ⟨w.heap.size+1,0,none⟩) 2 2) w' hf (by omega) S V);unfold znd at *
 clear H hR A1 A2;cases hq:(rza f (5+1) l).bind fun e b l=>dzd f 5 e b l with
 | bad l'=>
  simp only [hq] at HC;go_enter Tryz.func140,Tryz.ntmps140;go_wp2_with fail;refine (HC.out _ S0 V0).mono ?_;rintro e w2 ⟨rfl,s2,b2⟩;have S2:=hid s2;have B2:=hid ((But.of A.out).trans b2);clear s2 b2 S0 A G0 HC V0;unfold uza;go_wp2_with fail;exact⟨rfl,rfl,S2.out,B2.out⟩
 | ok x b l'=>
  simp only [hq] at HC;go_enter Tryz.func140,Tryz.ntmps140;go_wp2_with fail;refine (HC.out _ S0 V0).mono ?_;rintro e w2 ⟨⟨nv,kv,rfl,n2⟩,s2,b2⟩;obtain⟨a1,q1,a2,q2,rfl,rfl⟩:=pza n2;have S3:=hid s2;have N3:=hid (Gza (lo':=w.heap.size+1) (by simp) n2);have B3:=hid ((But.of A.out).trans b2);have G3:=hid (dza G0.out b2 (by omega));have hg3:=fza G3.out;obtain⟨r0,r1,r2,r3,r4,r5,r6⟩:=oza G3.out;obtain⟨u0,u1,u2,u3,u4,u5,u6⟩:=Qza G3.out;clear s2 b2 S0 A G0 HC n2 V0;unfold ndv;go_wp2_with fail;have Z:=Tza hP (Nat.le_refl _) S3.out B3.out G3.out (.int .i64 x.kind) (.int .i64 x.op) (.int .i64 x.num) (.string x.str) (.slice a1 x.names.length q1) (.slice a2 x.kids.length q2) (.int .i64 x.pl);exact bodyPost_ret (jzb rfl rfl Z.1) rfl ⟨⟨_,_,rfl,Gza (Nat.le_succ _) (xza (yzb w2 (Nat.lt_succ_self _) _ _ _ _ _ _ _) N3.out)⟩,Z.2.1,Z.2.2⟩

set_option maxHeartbeats 3200000 in
theorem Izz (f:Nat) (hR:∀ g,g≤f→mzd g) (P:Nat) (L l:List Tok) (w:World) (hf:20*l.length+(10 - 6)≤f) (H:Hid (PSt P L w l)) :
  Calls Tryz.prog 162 #[.pointer (some ⟨P,0,none⟩)] w (Sza P L w ((rza f (6+1) l).bind fun e b l=>dzd f 6 e b l)):=by
 have hP:=H.out.lt;have A1:=(Below.refl _ w).alloc (Nat.le_refl _) (.cells znd 26);have A2:=(Below.refl _ (w.alloc (.cells znd 26))).alloc (Nat.le_refl _) (.cells #[.string ⟨#[42]⟩,.string ⟨#[47]⟩,.string ⟨#[37]⟩] 9);have A:=hid (Dza A1 A2);have S0:=hid (H.out.on A.out);have G0:=hid (bza (iza w 26 znd) A2);have V0:=hid (show StR (w.heap.size+1) ((w.alloc (.cells znd 26)).alloc (.cells #[.string ⟨#[42]⟩,.string ⟨#[47]⟩,.string ⟨#[37]⟩] 9)) (.slice (some ⟨w.heap.size+1,0,none⟩) 3 3) [⟨#[42]⟩,⟨#[47]⟩,⟨#[37]⟩] from by
  have hb:=iza (w.alloc (.cells znd 26)) 9 #[.string ⟨#[42]⟩,.string ⟨#[47]⟩,.string ⟨#[37]⟩];simp only [World.size_alloc] at hb;refine .inr ⟨w.heap.size+1,0,3,rfl,⟨Nat.le_refl _,by simp⟩,fun i hi=>?_,Nat.le_refl _⟩;rw [aza hb];simp only [List.length_cons,List.length_nil] at hi
  rcases (show i=0∨i=1∨i=2 by omega) with rfl | rfl | rfl<;>rfl)
 have HC:=hid (fun w' S V=>Azg 6 _ (by omega) rfl (fun _ _=>by kernel_rfl) f hR (w.heap.size+1) P L l (.slice (some ⟨w.heap.size+1,0,none⟩) 3 3) w' hf (by omega) S V);unfold znd at *
 clear H hR A1 A2;cases hq:(rza f (6+1) l).bind fun e b l=>dzd f 6 e b l with
 | bad l'=>
  simp only [hq] at HC;go_enter Tryz.func162,Tryz.ntmps162;go_wp2_with fail;refine (HC.out _ S0 V0).mono ?_;rintro e w2 ⟨rfl,s2,b2⟩;have S2:=hid s2;have B2:=hid ((But.of A.out).trans b2);clear s2 b2 S0 A G0 HC V0;unfold uza;go_wp2_with fail;exact⟨rfl,rfl,S2.out,B2.out⟩
 | ok x b l'=>
  simp only [hq] at HC;go_enter Tryz.func162,Tryz.ntmps162;go_wp2_with fail;refine (HC.out _ S0 V0).mono ?_;rintro e w2 ⟨⟨nv,kv,rfl,n2⟩,s2,b2⟩;obtain⟨a1,q1,a2,q2,rfl,rfl⟩:=pza n2;have S3:=hid s2;have N3:=hid (Gza (lo':=w.heap.size+1) (by simp) n2);have B3:=hid ((But.of A.out).trans b2);have G3:=hid (dza G0.out b2 (by omega));have hg3:=fza G3.out;obtain⟨r0,r1,r2,r3,r4,r5,r6⟩:=oza G3.out;obtain⟨u0,u1,u2,u3,u4,u5,u6⟩:=Qza G3.out;clear s2 b2 S0 A G0 HC n2 V0;unfold ndv;go_wp2_with fail;have Z:=Tza hP (Nat.le_refl _) S3.out B3.out G3.out (.int .i64 x.kind) (.int .i64 x.op) (.int .i64 x.num) (.string x.str) (.slice a1 x.names.length q1) (.slice a2 x.kids.length q2) (.int .i64 x.pl);exact bodyPost_ret (jzb rfl rfl Z.1) rfl ⟨⟨_,_,rfl,Gza (Nat.le_succ _) (xza (yzb w2 (Nat.lt_succ_self _) _ _ _ _ _ _ _) N3.out)⟩,Z.2.1,Z.2.2⟩

end Go.Proofs.YtdnnmjhfidimcaaGreatDoor
