/- A function. -/
import Derived.Test.YtdnnmjhfidimcaaGreatDoorJoint22
import Derived.Test.YtdnnmjhfidimcaaGreatDoorJoint18
import Derived.Test.YtdnnmjhfidimcaaGreatDoorJoint14
namespace Go.Proofs.YtdnnmjhfidimcaaGreatDoor
open Go.RowKit

theorem Szz {lo lo2 nb zb:Nat} {ok:Nat→Prop} {w:World} {nv kv:Value} {ns:List ByteArray} {ks:List Nd} (hb:∀ b,ok b→lo≤b∧b≠zb∧b≠nb) (hn:lo≤lo2) (h1:nb<lo2) (h2:zb<lo2) (M:Pzg nb ok w nv ns) (R:KdR lo2 w kv ks) (a b c d e f p:Value) (v5:Value) :
  StR lo (put7w (w.setCell ⟨nb,5,none⟩ v5) zb a b c d e f p) nv ns∧KdR lo (put7w (w.setCell ⟨nb,5,none⟩ v5) zb a b c d e f p) kv ks:=by
 have hs:(put7w (w.setCell ⟨nb,5,none⟩ v5) zb a b c d e f p).heap.size=w.heap.size:=by simp [put7w,World.setCell]
 have AO:=gzc (Dzd (i:=5) (v:=v5) (ok:=ok) (g:=nb) (a:=w) (fun h=>(hb nb h).2.2 rfl)) (szc (ok:=ok) (g:=zb) (w.setCell ⟨nb,5,none⟩ v5) (fun h=>(hb zb h).2.1 rfl) a b c d e f p);have AL:=Jze (Vzg (lo:=lo2) (i:=5) (v:=v5) (g:=nb) (a:=w) h1) (yzb (w.setCell ⟨nb,5,none⟩ v5) h2 a b c d e f p);exact⟨yzh (fun k hk=>⟨⟨(hb k hk.1).1,by rw [hs];exact hk.2⟩,AO.block k hk.1 hk.2⟩) (zzn M),lzd hn (uzg AL R)⟩
theorem Rzr (x:Nd) (nv kv:Value) (w:World):(Instr.field 26 (.agg #[.int .i64 x.kind,.int .i64 x.op,.int .i64 x.num,.string x.str,nv,kv,.int .i64 x.pl]) 5).run Tryz.prog w=.ok kv w:=by kernel_rfl

set_option maxRecDepth 100000 in
set_option maxHeartbeats 12800000 in
theorem CzA (P:Nat) (L l:List Tok) (at_:Int) (w:World) (H:Hid (PSt P L w l)) (hh:isH l [40]=false) :
  Calls Tryz.prog 184 #[.pointer (some ⟨P,0,none⟩),.int .i64 at_] w (Sza P L w (.bad l)):=by
 have hP:=H.out.lt;have A1:=(Below.refl _ w).alloc (Nat.le_refl _) (.cells #[.pointer (some ⟨P,0,none⟩)] 43);have A2:=(Below.refl _ (w.alloc (.cells #[.pointer (some ⟨P,0,none⟩)] 43))).alloc (Nat.le_refl _) (.cells #[.int .i64 0,.int .i64 0,.int .i64 0,.string ⟨#[]⟩,.slice none 0 0,.slice none 0 0,.int .i64 0] 26);have A3:=(Below.refl _ ((w.alloc (.cells #[.pointer (some ⟨P,0,none⟩)] 43)).alloc (.cells #[.int .i64 0,.int .i64 0,.int .i64 0,.string ⟨#[]⟩,.slice none 0 0,.slice none 0 0,.int .i64 0] 26))).alloc (Nat.le_refl _) (.cells #[.int .i64 8,.int .i64 0,.int .i64 0,.string ⟨#[]⟩,.slice none 0 0,.slice none 0 0,.int .i64 at_] 26);have S3:=hid (((H.out.on A1).on A2).on A3);have Q3:=hid (bza (bza (iza w 43 #[.pointer (some ⟨P,0,none⟩)]) A2) A3);have Z3:=hid (show Blk (w.heap.size+1) 26 #[.int .i64 0,.int .i64 0,.int .i64 0,.string ⟨#[]⟩,.slice none 0 0,.slice none 0 0,.int .i64 0] (((w.alloc (.cells #[.pointer (some ⟨P,0,none⟩)] 43)).alloc (.cells #[.int .i64 0,.int .i64 0,.int .i64 0,.string ⟨#[]⟩,.slice none 0 0,.slice none 0 0,.int .i64 0] 26)).alloc (.cells #[.int .i64 8,.int .i64 0,.int .i64 0,.string ⟨#[]⟩,.slice none 0 0,.slice none 0 0,.int .i64 at_] 26)) from by
  have:=bza (iza (w.alloc (.cells #[.pointer (some ⟨P,0,none⟩)] 43)) 26 #[.int .i64 0,.int .i64 0,.int .i64 0,.string ⟨#[]⟩,.slice none 0 0,.slice none 0 0,.int .i64 0]) A3;simpa using this)
 have K3:=hid (show Blk (w.heap.size+1+1) 26 #[.int .i64 8,.int .i64 0,.int .i64 0,.string ⟨#[]⟩,.slice none 0 0,.slice none 0 0,.int .i64 at_] (((w.alloc (.cells #[.pointer (some ⟨P,0,none⟩)] 43)).alloc (.cells #[.int .i64 0,.int .i64 0,.int .i64 0,.string ⟨#[]⟩,.slice none 0 0,.slice none 0 0,.int .i64 0] 26)).alloc (.cells #[.int .i64 8,.int .i64 0,.int .i64 0,.string ⟨#[]⟩,.slice none 0 0,.slice none 0 0,.int .i64 at_] 26)) from by
  have:=iza ((w.alloc (.cells #[.pointer (some ⟨P,0,none⟩)] 43)).alloc (.cells #[.int .i64 0,.int .i64 0,.int .i64 0,.string ⟨#[]⟩,.slice none 0 0,.slice none 0 0,.int .i64 0] 26)) 26 #[.int .i64 8,.int .i64 0,.int .i64 0,.string ⟨#[]⟩,.slice none 0 0,.slice none 0 0,.int .i64 at_];simpa using this)
 have B3:=hid (((But.of (P:=P) A1).trans (But.of A2)).trans (But.of A3));have C:C1 P (w.heap.size+1+1) (w.heap.size) (w.heap.size+1+1) (fun b=>w.heap.size+1+1<b):=⟨by omega,Nat.le_refl _,hP,by omega,by omega,by omega,by omega,fun b h1 h2=>h1⟩
 clear A1 A2 A3;have HT:=hid (show isH l (⟨#[40]⟩:ByteArray).data.toList=false from hh);clear H C Q3 K3 hh;go_enter Tryz.func184,Tryz.ntmps184;go_wp2_with fail;refine (Hzd P L l ⟨#[40]⟩ _ S3 HT.out).mono ?_;rintro e w1 ⟨rfl,b1⟩;have S1:=hid (S3.out.on b1);have B1:=hid (B3.out.trans (But.of b1));clear b1;unfold uza;go_wp2_with fail;exact⟨rfl,rfl,S1.out,B1.out⟩

set_option maxRecDepth 100000 in
set_option maxHeartbeats 12800000 in
theorem Tzz (P:Nat) (L:List Tok) (t:Tok) (q:List Tok) (at_:Int) (w:World) (H:Hid (PSt P L w (t::q))) (hh:isT t [40]=true) (l':List Tok)
  (CC:Hid (∀ w1,w.heap.size+1+1+1≤w1.heap.size→Hid (PSt P L w1 q)→Hid (Blk (w.heap.size+1+1) 26 #[.int .i64 8,.int .i64 0,.int .i64 0,.string ⟨#[]⟩,.slice none 0 0,.slice none 0 0,.int .i64 at_] w1)→Hid (Blk (w.heap.size) 43 #[.pointer (some ⟨P,0,none⟩)] w1)→Calls Tryz.prog 187 #[.pointer (some ⟨P,0,none⟩),.int .i64 6,.string ⟨#[41]⟩,.func (.func 192) #[] #[.pointer (some ⟨w.heap.size+1+1,0,none⟩),.pointer (some ⟨w.heap.size,0,none⟩)]] w1 (Gze (OSt P (w.heap.size+1+1) (w.heap.size) (w.heap.size+1+1) (fun b=>w.heap.size+1+1<b) 8 at_) (w.heap.size+1+1) P L w1 (.bad l')))) :
  Calls Tryz.prog 184 #[.pointer (some ⟨P,0,none⟩),.int .i64 at_] w (Sza P L w (.bad l')):=by
 have hP:=H.out.lt;have A1:=(Below.refl _ w).alloc (Nat.le_refl _) (.cells #[.pointer (some ⟨P,0,none⟩)] 43);have A2:=(Below.refl _ (w.alloc (.cells #[.pointer (some ⟨P,0,none⟩)] 43))).alloc (Nat.le_refl _) (.cells #[.int .i64 0,.int .i64 0,.int .i64 0,.string ⟨#[]⟩,.slice none 0 0,.slice none 0 0,.int .i64 0] 26);have A3:=(Below.refl _ ((w.alloc (.cells #[.pointer (some ⟨P,0,none⟩)] 43)).alloc (.cells #[.int .i64 0,.int .i64 0,.int .i64 0,.string ⟨#[]⟩,.slice none 0 0,.slice none 0 0,.int .i64 0] 26))).alloc (Nat.le_refl _) (.cells #[.int .i64 8,.int .i64 0,.int .i64 0,.string ⟨#[]⟩,.slice none 0 0,.slice none 0 0,.int .i64 at_] 26);have S3:=hid (((H.out.on A1).on A2).on A3);have Q3:=hid (bza (bza (iza w 43 #[.pointer (some ⟨P,0,none⟩)]) A2) A3);have Z3:=hid (show Blk (w.heap.size+1) 26 #[.int .i64 0,.int .i64 0,.int .i64 0,.string ⟨#[]⟩,.slice none 0 0,.slice none 0 0,.int .i64 0] (((w.alloc (.cells #[.pointer (some ⟨P,0,none⟩)] 43)).alloc (.cells #[.int .i64 0,.int .i64 0,.int .i64 0,.string ⟨#[]⟩,.slice none 0 0,.slice none 0 0,.int .i64 0] 26)).alloc (.cells #[.int .i64 8,.int .i64 0,.int .i64 0,.string ⟨#[]⟩,.slice none 0 0,.slice none 0 0,.int .i64 at_] 26)) from by
  have:=bza (iza (w.alloc (.cells #[.pointer (some ⟨P,0,none⟩)] 43)) 26 #[.int .i64 0,.int .i64 0,.int .i64 0,.string ⟨#[]⟩,.slice none 0 0,.slice none 0 0,.int .i64 0]) A3;simpa using this)
 have K3:=hid (show Blk (w.heap.size+1+1) 26 #[.int .i64 8,.int .i64 0,.int .i64 0,.string ⟨#[]⟩,.slice none 0 0,.slice none 0 0,.int .i64 at_] (((w.alloc (.cells #[.pointer (some ⟨P,0,none⟩)] 43)).alloc (.cells #[.int .i64 0,.int .i64 0,.int .i64 0,.string ⟨#[]⟩,.slice none 0 0,.slice none 0 0,.int .i64 0] 26)).alloc (.cells #[.int .i64 8,.int .i64 0,.int .i64 0,.string ⟨#[]⟩,.slice none 0 0,.slice none 0 0,.int .i64 at_] 26)) from by
  have:=iza ((w.alloc (.cells #[.pointer (some ⟨P,0,none⟩)] 43)).alloc (.cells #[.int .i64 0,.int .i64 0,.int .i64 0,.string ⟨#[]⟩,.slice none 0 0,.slice none 0 0,.int .i64 0] 26)) 26 #[.int .i64 8,.int .i64 0,.int .i64 0,.string ⟨#[]⟩,.slice none 0 0,.slice none 0 0,.int .i64 at_];simpa using this)
 have B3:=hid (((But.of (P:=P) A1).trans (But.of A2)).trans (But.of A3));have C:C1 P (w.heap.size+1+1) (w.heap.size) (w.heap.size+1+1) (fun b=>w.heap.size+1+1<b):=⟨by omega,Nat.le_refl _,hP,by omega,by omega,by omega,by omega,fun b h1 h2=>h1⟩
 clear A1 A2 A3;have HT:=hid (show isT t (⟨#[40]⟩:ByteArray).data.toList=true from hh);clear H C hh;go_enter Tryz.func184,Tryz.ntmps184;go_wp2_with fail;refine (Jzb P L t q ⟨#[40]⟩ _ S3 HT.out).mono ?_;rintro e w1 ⟨rfl,s1,b1⟩;have S1:=hid s1;have B1:=hid (B3.out.trans b1);have Q1':=hid (dza Q3.out b1 (by omega));have Z1:=hid (dza Z3.out b1 (by omega));have K1:=hid (dza K3.out b1 (by omega));have hz1:=b1.size;simp only [World.size_alloc] at hz1;have q0:=aza Q1'.out 0;simp at q0;have LC:=CC.out w1 hz1 S1 K1 Q1';clear s1 b1 S3 B3 Q3 Z3 K3 HT CC;go_wp2_with fail;refine LC.mono ?_;rintro e w2 ⟨rfl,s2,b2⟩;have S2:=hid s2;have B2:=hid (B1.out.lo b2 (by omega));clear s2 b2 LC;unfold uza;go_wp2_with fail;exact⟨rfl,rfl,S2.out,B2.out⟩

set_option maxRecDepth 100000 in
set_option maxHeartbeats 12800000 in
theorem DzA (f:Nat) (hB:Ezg f) (P:Nat) (L:List Tok) (t:Tok) (q:List Tok) (at_:Int) (w:World) (H:Hid (PSt P L w (t::q))) (hh:isT t [40]=true) (s:List ByteArray×List Nd) (l':List Tok) (hl:20*l'.length+5≤f)
  (CC:Hid (∀ w1,w.heap.size+1+1+1≤w1.heap.size→Hid (PSt P L w1 q)→Hid (Blk (w.heap.size+1+1) 26 #[.int .i64 8,.int .i64 0,.int .i64 0,.string ⟨#[]⟩,.slice none 0 0,.slice none 0 0,.int .i64 at_] w1)→Hid (Blk (w.heap.size) 43 #[.pointer (some ⟨P,0,none⟩)] w1)→Calls Tryz.prog 187 #[.pointer (some ⟨P,0,none⟩),.int .i64 6,.string ⟨#[41]⟩,.func (.func 192) #[] #[.pointer (some ⟨w.heap.size+1+1,0,none⟩),.pointer (some ⟨w.heap.size,0,none⟩)]] w1 (Gze (OSt P (w.heap.size+1+1) (w.heap.size) (w.heap.size+1+1) (fun b=>w.heap.size+1+1<b) 8 at_) (w.heap.size+1+1) P L w1 (.ok s l')))) :
  Calls Tryz.prog 184 #[.pointer (some ⟨P,0,none⟩),.int .i64 at_] w (Sza P L w ((Xzb f l').bind fun b _ l'=>.ok (.mk 8 0 0 bz s.1 b.kids at_) false l')):=by
 have hP:=H.out.lt;have A1:=(Below.refl _ w).alloc (Nat.le_refl _) (.cells #[.pointer (some ⟨P,0,none⟩)] 43);have A2:=(Below.refl _ (w.alloc (.cells #[.pointer (some ⟨P,0,none⟩)] 43))).alloc (Nat.le_refl _) (.cells #[.int .i64 0,.int .i64 0,.int .i64 0,.string ⟨#[]⟩,.slice none 0 0,.slice none 0 0,.int .i64 0] 26);have A3:=(Below.refl _ ((w.alloc (.cells #[.pointer (some ⟨P,0,none⟩)] 43)).alloc (.cells #[.int .i64 0,.int .i64 0,.int .i64 0,.string ⟨#[]⟩,.slice none 0 0,.slice none 0 0,.int .i64 0] 26))).alloc (Nat.le_refl _) (.cells #[.int .i64 8,.int .i64 0,.int .i64 0,.string ⟨#[]⟩,.slice none 0 0,.slice none 0 0,.int .i64 at_] 26);have S3:=hid (((H.out.on A1).on A2).on A3);have Q3:=hid (bza (bza (iza w 43 #[.pointer (some ⟨P,0,none⟩)]) A2) A3);have Z3:=hid (show Blk (w.heap.size+1) 26 #[.int .i64 0,.int .i64 0,.int .i64 0,.string ⟨#[]⟩,.slice none 0 0,.slice none 0 0,.int .i64 0] (((w.alloc (.cells #[.pointer (some ⟨P,0,none⟩)] 43)).alloc (.cells #[.int .i64 0,.int .i64 0,.int .i64 0,.string ⟨#[]⟩,.slice none 0 0,.slice none 0 0,.int .i64 0] 26)).alloc (.cells #[.int .i64 8,.int .i64 0,.int .i64 0,.string ⟨#[]⟩,.slice none 0 0,.slice none 0 0,.int .i64 at_] 26)) from by
  have:=bza (iza (w.alloc (.cells #[.pointer (some ⟨P,0,none⟩)] 43)) 26 #[.int .i64 0,.int .i64 0,.int .i64 0,.string ⟨#[]⟩,.slice none 0 0,.slice none 0 0,.int .i64 0]) A3;simpa using this)
 have K3:=hid (show Blk (w.heap.size+1+1) 26 #[.int .i64 8,.int .i64 0,.int .i64 0,.string ⟨#[]⟩,.slice none 0 0,.slice none 0 0,.int .i64 at_] (((w.alloc (.cells #[.pointer (some ⟨P,0,none⟩)] 43)).alloc (.cells #[.int .i64 0,.int .i64 0,.int .i64 0,.string ⟨#[]⟩,.slice none 0 0,.slice none 0 0,.int .i64 0] 26)).alloc (.cells #[.int .i64 8,.int .i64 0,.int .i64 0,.string ⟨#[]⟩,.slice none 0 0,.slice none 0 0,.int .i64 at_] 26)) from by
  have:=iza ((w.alloc (.cells #[.pointer (some ⟨P,0,none⟩)] 43)).alloc (.cells #[.int .i64 0,.int .i64 0,.int .i64 0,.string ⟨#[]⟩,.slice none 0 0,.slice none 0 0,.int .i64 0] 26)) 26 #[.int .i64 8,.int .i64 0,.int .i64 0,.string ⟨#[]⟩,.slice none 0 0,.slice none 0 0,.int .i64 at_];simpa using this)
 have B3:=hid (((But.of (P:=P) A1).trans (But.of A2)).trans (But.of A3));have C:C1 P (w.heap.size+1+1) (w.heap.size) (w.heap.size+1+1) (fun b=>w.heap.size+1+1<b):=⟨by omega,Nat.le_refl _,hP,by omega,by omega,by omega,by omega,fun b h1 h2=>h1⟩
 clear A1 A2 A3;have HT:=hid (show isT t (⟨#[40]⟩:ByteArray).data.toList=true from hh);have HB:=hid (fun w' S=>hB P L l' w' hl S);clear H C hh hB;cases hq:Xzb f l' with
 | bad l3=>
  rw [hq] at HB;rw [PR.bind_bad];go_enter Tryz.func184,Tryz.ntmps184;go_wp2_with fail;refine (Jzb P L t q ⟨#[40]⟩ _ S3 HT.out).mono ?_;rintro e w1 ⟨rfl,s1,b1⟩;have S1:=hid s1;have B1:=hid (B3.out.trans b1);have Q1':=hid (dza Q3.out b1 (by omega));have Z1:=hid (dza Z3.out b1 (by omega));have K1:=hid (dza K3.out b1 (by omega));have hz1:=b1.size;simp only [World.size_alloc] at hz1;have q0:=aza Q1'.out 0;simp at q0;have LC:=CC.out w1 hz1 S1 K1 Q1';clear s1 b1 S3 B3 Q3 Z3 K3 HT CC;go_wp2_with fail;refine LC.mono ?_;rintro e w2 ⟨rfl,⟨nv,kv,k2,q2,m2,r2⟩,s2,b2⟩;obtain⟨f1,g1,rfl⟩:=fzf m2;have S2:=hid s2;have B2:=hid (B1.out.lo b2 (by omega));have Q2:=hid q2;have K2:=hid k2;have M2:=hid m2;have Z2:=hid (Qzr Z1.out b2 (by omega) (by omega));have hz2:=b2.size;have hk2:=fza k2;have q0:=aza q2 0;simp at q0;clear s2 b2 k2 q2 m2 r2 LC S1 B1 Q1' Z1 K1;go_wp2_with fail;refine (HB.out _ S2).mono ?_;rintro e w3 ⟨rfl,s3,b3⟩;have S3:=hid s3;have B3:=hid (B2.out.trans b3);clear s3 b3 HB;unfold uza;go_wp2_with fail;exact⟨rfl,rfl,S3.out,B3.out⟩
 | ok x b l3=>
  rw [hq] at HB;rw [PR.bind_ok];go_enter Tryz.func184,Tryz.ntmps184;go_wp2_with fail;refine (Jzb P L t q ⟨#[40]⟩ _ S3 HT.out).mono ?_;rintro e w1 ⟨rfl,s1,b1⟩;have S1:=hid s1;have B1:=hid (B3.out.trans b1);have Q1':=hid (dza Q3.out b1 (by omega));have Z1:=hid (dza Z3.out b1 (by omega));have K1:=hid (dza K3.out b1 (by omega));have hz1:=b1.size;simp only [World.size_alloc] at hz1;have q0:=aza Q1'.out 0;simp at q0;have LC:=CC.out w1 hz1 S1 K1 Q1';clear s1 b1 S3 B3 Q3 Z3 K3 HT CC;go_wp2_with fail;refine LC.mono ?_;rintro e w2 ⟨rfl,⟨nv,kv,k2,q2,m2,r2⟩,s2,b2⟩;obtain⟨f1,g1,rfl⟩:=fzf m2;have S2:=hid s2;have B2:=hid (B1.out.lo b2 (by omega));have Q2:=hid q2;have K2:=hid k2;have M2:=hid m2;have Z2:=hid (Qzr Z1.out b2 (by omega) (by omega));have hz2:=b2.size;have hk2:=fza k2;have q0:=aza q2 0;simp at q0;clear s2 b2 k2 q2 m2 r2 LC S1 B1 Q1' Z1 K1;go_wp2_with fail;refine (HB.out _ S2).mono ?_;rintro e w3 ⟨⟨nv3,kv3,rfl,n3⟩,s3,b3⟩;obtain⟨x1,y1,x2,y2,rfl,rfl⟩:=pza n3;have N3:=hid (jzh n3);have S3:=hid s3;have B3:=hid (B2.out.trans b3);have K3:=hid (dza K2.out b3 (by omega));have M3:=hid (cze M2.out b3 (by omega));have Z3:=hid (dza Z2.out b3 (by omega));clear s3 b3 n3 HB S2 B2 Q2 K2 M2 Z2;have hfd:=fun (w:World)=>Rzr x (.slice x1 x.names.length y1) (.slice x2 x.kids.length y2) w
  unfold ndv;obtain⟨c0,c1,c2,c3,c4,c5,c6⟩:=oza K3.out;obtain⟨d0,d1,d2,d3,d4,d5,d6⟩:=Qza K3.out;obtain⟨r0,r1,r2,r3,r4,r5,r6⟩:=oza Z3.out;obtain⟨v0,v1,v2,v3,v4,v5,v6⟩:=Qza Z3.out;have hg9:=fza Z3.out;have hv9:=fza K3.out;go_wp2_with fail;have Z:=Tza hP (Nat.le_succ _) (fzd S3.out (g:=w.heap.size+1+1) (i:=5) (by omega) (.slice x2 x.kids.length y2)) (B3.out.setNew (g:=w.heap.size+1+1) (i:=5) (by omega) (.slice x2 x.kids.length y2)) (show Blk (w.heap.size+1) 26 #[.int .i64 0,.int .i64 0,.int .i64 0,.string ⟨#[]⟩,.slice none 0 0,.slice none 0 0,.int .i64 0] (w3.setCell ⟨w.heap.size+1+1,5,none⟩ (.slice x2 x.kids.length y2)) from (Below.heap_setCell _ _ _ _ (by simp)).trans Z3.out) (.int .i64 8) (.int .i64 0) (.int .i64 0) (.string ⟨#[]⟩) (.slice f1 s.1.length g1) (.slice x2 x.kids.length y2) (.int .i64 at_);exact bodyPost_ret (jzb rfl rfl Z.1) rfl ⟨⟨_,_,rfl,mzc (Szz (lo2:=w2.heap.size) (fun b hb=>⟨by omega,by omega,by omega⟩) (by omega) (by omega) (by omega) M3.out N3.out _ _ _ _ _ _ _ _)⟩,Z.2.1,Z.2.2⟩

theorem hzm:∀ (f:Nat) (s s':List ByteArray×List Nd) (l l':List Tok),Fze szd (fun s=>s.1.length) 6 41 f s l=.ok s' l'→l'.length≤l.length
 | 0,s,s',l,l',h=>by rw [Fze] at h;cases h
 | 1,s,s',l,l',h=>by
  rw [Fze] at h;split at h
  ·cases h
  ·unfold ezm at h;split at h
   ·injection h with _ h2;rw [← h2];simp
   ·cases h
 | f+2,s,s',l,l',h=>by
  rw [Fze] at h;split at h
  ·cases hq:szd f s l.tail with
   | bad m=>rw [hq] at h;cases h
   | ok s1 m=>
    rw [hq,PG.bind_ok] at h;have h1:=hzm f s1 s' m l' h;have h2:m.length≤l.tail.length:=by
     unfold szd at hq;split at hq
     ·injection hq with _ h2;rw [← h2];simp
     ·cases hq
    simp at h2;omega
  ·unfold ezm at h;split at h
   ·injection h with _ h2;rw [← h2];simp
   ·cases h
theorem Wzu {f:Nat} {s':List ByteArray×List Nd} {l l':List Tok} (h:ezj szd (fun s=>s.1.length) 6 41 f ([],[]) l=.ok s' l'):l'.length≤l.length:=by
 unfold ezj at h;split at h
 ·injection h with _ h2;rw [← h2];simp
 ·cases hq:szd f ([],[]) l with
  | bad m=>rw [hq] at h;cases h
  | ok s1 m=>
   rw [hq,PG.bind_ok] at h;have h1:=hzm f s1 s' m l' h;have h2:m.length≤l.length:=by
    unfold szd at hq;split at hq
    ·injection hq with _ h2;rw [← h2];simp
    ·cases hq
   omega
theorem Rzw (f:Nat) (hB:Ezg f):FnC f:=by
 intro P L l at_ w hf H;unfold BzA Go.Proofs.YtdnnmjhfidimcaaGreatDoor.must;by_cases hh:isH l [40]=true
 ·obtain⟨t,q,rfl,ht⟩:=wza hh;rw [if_pos hh];have hP:=H.out.lt;have C:C1 P (w.heap.size+1+1) (w.heap.size) (w.heap.size+1+1) (fun b=>w.heap.size+1+1<b):=⟨by omega,Nat.le_refl _,hP,by omega,by omega,by omega,by omega,fun b h1 h2=>h1⟩
  have hf2:20*q.length+35≤f:=by simp at hf;omega
  have CC:∀ w1,w.heap.size+1+1+1≤w1.heap.size→Hid (PSt P L w1 q)→Hid (Blk (w.heap.size+1+1) 26 #[.int .i64 8,.int .i64 0,.int .i64 0,.string ⟨#[]⟩,.slice none 0 0,.slice none 0 0,.int .i64 at_] w1)→Hid (Blk (w.heap.size) 43 #[.pointer (some ⟨P,0,none⟩)] w1)→Calls Tryz.prog 187 #[.pointer (some ⟨P,0,none⟩),.int .i64 6,.string ⟨#[41]⟩,.func (.func 192) #[] #[.pointer (some ⟨w.heap.size+1+1,0,none⟩),.pointer (some ⟨w.heap.size,0,none⟩)]] w1 (Gze (OSt P (w.heap.size+1+1) (w.heap.size) (w.heap.size+1+1) (fun b=>w.heap.size+1+1<b) 8 at_) (w.heap.size+1+1) P L w1 (ezj szd (fun s=>s.1.length) 6 41 f ([],[]) q)):=fun w1 hw S K Q=>
   Qzj _ (fun _ _=>by kernel_rfl) 6 41 _ _ _ (OSt P (w.heap.size+1+1) (w.heap.size) (w.heap.size+1+1) (fun b=>w.heap.size+1+1<b) 8 at_) P (w.heap.size+1+1) L (fun s a b h k=>dzt C s a b h k) (fun s=>s.1.length) szd f (by omega) (by omega) (fun g _=>Szu P _ _ _ L _ C 8 at_ g) (fun g s s' l l' w' S h=>Mzw g s s' l l' S.ne h) q ([],[]) w1 (by omega) rfl (by omega) S (hid (fzt K.out Q.out))
  show Calls _ _ _ _ (Sza P L w ((Tzh q).bind fun ns _ l'=>(Xzb f l').bind fun b _ l'=>.ok (.mk 8 0 0 bz ns b.kids at_) false l'));rw [wzy f (by omega)];cases hq:ezj szd (fun s=>s.1.length) 6 41 f ([],[]) q with
  | bad l'=>
   rw [hq] at CC;exact Tzz P L t q at_ w H ht l' (hid CC)
  | ok s l'=>
   rw [hq] at CC;have hl:l'.length≤q.length:=Wzu hq;exact DzA f hB P L t q at_ w H ht s l' (by omega) (hid CC)
 ·rw [if_neg hh];exact CzA P L l at_ w H (by simpa using hh)

end Go.Proofs.YtdnnmjhfidimcaaGreatDoor
