/- The plain parser's lists as lists with a closure. An object. -/
import Derived.Test.YtdnnmjhfidimcaaGreatDoorPsObj1
import Derived.Test.YtdnnmjhfidimcaaGreatDoorJoint19
import Derived.Test.YtdnnmjhfidimcaaGreatDoorJoint22
namespace Go.Proofs.YtdnnmjhfidimcaaGreatDoor
set_option maxRecDepth 100000
set_option maxHeartbeats 12800000
open Go.RowKit
def PG.toL:PG (List ByteArray×List Nd)→PL
 | .ok s l=>.ok s.1 s.2 l
 | .bad l=>.bad l
theorem rT (en:UInt8) (ns:List ByteArray) (ks:List Nd) (l:List Tok):PG.toL (Ab en (ns,ks) l)=mustL [en] l fun l=>.ok ns ks l:=by
 unfold Ab Go.Proofs.YtdnnmjhfidimcaaGreatDoor.mustL;split<;>rfl
theorem Ad (f:Nat) (ns:List ByteArray) (ks:List Nd) (l:List Tok) (k:List ByteArray×List Nd→List Tok→PG (List ByteArray×List Nd)) (h:∀ ns ks l,lW f ns ks l=PG.toL (k (ns,ks) l)) :
  kH (f+1) ns ks l=PG.toL ((kW f (ns,ks) l).bind k):=by
 rw [kH];unfold Go.Proofs.YtdnnmjhfidimcaaGreatDoor.wordL Go.Proofs.YtdnnmjhfidimcaaGreatDoor.mustL kW;by_cases hw:qC true l=true
 ·simp only [if_pos hw];by_cases hh:bZ l.tail [58]=true
  ·simp only [if_pos hh];cases aS f 1 l.tail.tail with
   | bad m=>rfl
   | ok x b m=>rw [PR.bindL_ok,h];rfl
  ·simp only [if_neg hh];rfl
 ·simp only [if_neg hw];rfl
theorem Iz:∀ (f:Nat) (ns:List ByteArray) (ks:List Nd) (l:List Tok),lW f ns ks l=PG.toL (kJ kW (fun s=>s.2.length) 40 125 f (ns,ks) l)
 | 0,ns,ks,l=>by rw [lW,kJ];rfl
 | 1,ns,ks,l=>by
  rw [lW,kJ];split
  ·rw [kH];rfl
  ·rw [rT]
 | f+2,ns,ks,l=>by
  rw [lW,kJ];split
  ·exact Ad f ns ks _ _ (fun ns ks l=>Iz f ns ks l)
  ·rw [rT]
theorem PQ (f:Nat) (l:List Tok):tO (f+2) l=PG.toL (tS kW (fun s=>s.2.length) 40 125 f ([],[]) l):=by
 rw [tO];unfold tS;split
 ·rfl
 ·exact Ad f [] [] l _ (fun ns ks l=>Iz f ns ks l)
theorem Mz:∀ (k:Nat) (ns:List ByteArray) (l:List Tok) (f:Nat),ns.length+(k+1)=6→2*k+1≤f→
  tX (k+1) ns l=PG.toL ((gY f (ns,[]) l).bind fun s l=>kJ gY (fun s=>s.1.length) 6 41 f s l)
 | 0,ns,l,f,hn,hf=>by
  rw [tX];unfold Go.Proofs.YtdnnmjhfidimcaaGreatDoor.wordL;by_cases hw:qC false l=true
  ·have e:gY f (ns,[]) l=.ok (ns++[(cur l).text],[]) l.tail:=by unfold gY;rw [if_pos hw]
   simp only [if_pos hw];rw [e,PG.bind_ok];obtain⟨f,rfl⟩:∃ g,f=g+1:=⟨f - 1,by omega⟩
   rw [if_neg (by simp)];have hc:¬ ((ns++[(cur l).text]).length<6∧bZ l.tail [44]=true):=by simp;omega
   cases f with
   | zero=>rw [kJ,if_neg hc,rT]
   | succ f=>rw [kJ,if_neg hc,rT]
  ·have e:gY f (ns,[]) l=.bad l:=by unfold gY;rw [if_neg hw]
   rw [if_neg hw,e];rfl
 | k+1,ns,l,f,hn,hf=>by
  rw [tX];unfold Go.Proofs.YtdnnmjhfidimcaaGreatDoor.wordL;by_cases hw:qC false l=true
  ·have e:gY f (ns,[]) l=.ok (ns++[(cur l).text],[]) l.tail:=by unfold gY;rw [if_pos hw]
   simp only [if_pos hw];rw [e,PG.bind_ok];obtain⟨f,rfl⟩:∃ g,f=g+2:=⟨f - 2,by omega⟩
   by_cases hh:bZ l.tail [44]=true
   ·rw [if_pos ⟨by omega,hh⟩,kJ,if_pos ⟨by simp;omega,hh⟩];exact Mz k _ _ f (by simp;omega) (by omega)
   ·rw [if_neg (fun h=>hh h.2),kJ,if_neg (fun h=>hh h.2),rT]
  ·rw [if_neg hw];have e:gY f (ns,[]) l=.bad l:=by unfold gY;rw [if_neg hw]
   rw [e];rfl
theorem Oq (f:Nat) (hf:11≤f) (l:List Tok):rC l=PG.toL (tS gY (fun s=>s.1.length) 6 41 f ([],[]) l):=by
 unfold rC tS;split
 ·rfl
 ·exact Mz 5 [] l f (by simp) (by omega)
theorem But.lo {P lo:Nat} {a b c:World} (h:But P a b) (k:ButLo lo P b c) (hl:a.heap.size≤lo):But P a c:=
 ⟨k.os.trans h.os,k.tape.trans h.tape,k.output.trans h.output,Nat.le_trans h.size k.size,fun i h1 h2=>(k.block i (by omega) h2).trans (h.block i h1 h2)⟩
theorem Gs {P lo g:Nat} {T:TypeId} {cs:Array Value} {a c:World} (h:dP g T cs a) (k:ButLo lo P a c) (hg:g<lo) (hp:g≠P):dP g T cs c:=(k.block g hg hp).trans h
theorem IA {P nb pb lo:Nat} {ok:Nat→Prop} {kd at_:Int} {w:World} (h1:dP nb 26 #[.int .i64 kd,.int .i64 0,.int .i64 0,.string ⟨#[]⟩,.slice none 0 0,.slice none 0 0,.int .i64 at_] w) (h2:dP pb 43 #[.pointer (some ⟨P,0,none⟩)] w):Gp P nb pb lo ok kd at_ ([],[]) w:=
 ⟨_,_,h1,h2,Mt _ _ _,Mu _ _ _⟩
theorem Ot {lo nb zb:Nat} {ok:Nat→Prop} {w:World} {nv kv:Value} {ns:List ByteArray} {ks:List Nd} (hb:∀ b,ok b→lo≤b∧b≠zb) (M:oY nb ok w nv ns) (R:jC nb (Iv ok nv) w kv ks) (a b c d e f p:Value) :
  JL lo (put7w w zb a b c d e f p) nv ns∧FL lo (put7w w zb a b c d e f p) kv ks:=by
 have hs:(put7w w zb a b c d e f p).heap.size=w.heap.size:=by simp [put7w,World.setCell]
 have AO:=eT (ok:=ok) (g:=zb) w (fun h=>(hb zb h).2 rfl) a b c d e f p;exact⟨qH (fun k hk=>⟨⟨(hb k hk.1).1,by rw [hs];exact hk.2⟩,AO.block k hk.1 hk.2⟩) (BI M),iD (fun k hk=>⟨⟨(hb k hk.1.1).1,by rw [hs];exact hk.2⟩,AO.block k hk.1.1 hk.2⟩) (jT R)⟩
theorem MA (P:Nat) (L l:List Tok) (w:World) (o:PG (List ByteArray×List Nd)) (H:Hid (PSt P L w l))
  (CC:Hid (Calls Tryz.prog 187 #[.pointer (some ⟨P,0,none⟩),.int .i64 40,.string ⟨#[125]⟩,.func (.func 191) #[] #[.pointer (some ⟨w.heap.size+1+1,0,none⟩),.pointer (some ⟨w.heap.size,0,none⟩)]] (((w.alloc (.cells #[.pointer (some ⟨P,0,none⟩)] 43)).alloc (.cells #[.int .i64 0,.int .i64 0,.int .i64 0,.string ⟨#[]⟩,.slice none 0 0,.slice none 0 0,.int .i64 0] 26)).alloc (.cells #[.int .i64 7,.int .i64 0,.int .i64 0,.string ⟨#[]⟩,.slice none 0 0,.slice none 0 0,.int .i64 0] 26)) (kK (Mx P (w.heap.size+1+1) (w.heap.size) (w.heap.size+1+1) (fun b=>w.heap.size+1+1<b) 7 0) (w.heap.size+1+1) P L (((w.alloc (.cells #[.pointer (some ⟨P,0,none⟩)] 43)).alloc (.cells #[.int .i64 0,.int .i64 0,.int .i64 0,.string ⟨#[]⟩,.slice none 0 0,.slice none 0 0,.int .i64 0] 26)).alloc (.cells #[.int .i64 7,.int .i64 0,.int .i64 0,.string ⟨#[]⟩,.slice none 0 0,.slice none 0 0,.int .i64 0] 26)) o))) :
  Calls Tryz.prog 183 #[.pointer (some ⟨P,0,none⟩)] w (bR P L w ((PG.toL o).bind fun ns ks l=>.ok (.mk 7 0 0 bz ns ks 0) false l)):=by
 have hP:=H.out.lt;have A1:=(Below.refl _ w).alloc (Nat.le_refl _) (.cells #[.pointer (some ⟨P,0,none⟩)] 43);have A2:=(Below.refl _ (w.alloc (.cells #[.pointer (some ⟨P,0,none⟩)] 43))).alloc (Nat.le_refl _) (.cells #[.int .i64 0,.int .i64 0,.int .i64 0,.string ⟨#[]⟩,.slice none 0 0,.slice none 0 0,.int .i64 0] 26);have A3:=(Below.refl _ ((w.alloc (.cells #[.pointer (some ⟨P,0,none⟩)] 43)).alloc (.cells #[.int .i64 0,.int .i64 0,.int .i64 0,.string ⟨#[]⟩,.slice none 0 0,.slice none 0 0,.int .i64 0] 26))).alloc (Nat.le_refl _) (.cells #[.int .i64 7,.int .i64 0,.int .i64 0,.string ⟨#[]⟩,.slice none 0 0,.slice none 0 0,.int .i64 0] 26);have S3:=aA (((H.out.on A1).on A2).on A3);have Q3:=aA (aC (aC (aI w 43 #[.pointer (some ⟨P,0,none⟩)]) A2) A3);have Z3:=aA (show dP (w.heap.size+1) 26 #[.int .i64 0,.int .i64 0,.int .i64 0,.string ⟨#[]⟩,.slice none 0 0,.slice none 0 0,.int .i64 0] (((w.alloc (.cells #[.pointer (some ⟨P,0,none⟩)] 43)).alloc (.cells #[.int .i64 0,.int .i64 0,.int .i64 0,.string ⟨#[]⟩,.slice none 0 0,.slice none 0 0,.int .i64 0] 26)).alloc (.cells #[.int .i64 7,.int .i64 0,.int .i64 0,.string ⟨#[]⟩,.slice none 0 0,.slice none 0 0,.int .i64 0] 26)) from by
  have:=aC (aI (w.alloc (.cells #[.pointer (some ⟨P,0,none⟩)] 43)) 26 #[.int .i64 0,.int .i64 0,.int .i64 0,.string ⟨#[]⟩,.slice none 0 0,.slice none 0 0,.int .i64 0]) A3;simpa using this)
 have K3:=aA (show dP (w.heap.size+1+1) 26 #[.int .i64 7,.int .i64 0,.int .i64 0,.string ⟨#[]⟩,.slice none 0 0,.slice none 0 0,.int .i64 0] (((w.alloc (.cells #[.pointer (some ⟨P,0,none⟩)] 43)).alloc (.cells #[.int .i64 0,.int .i64 0,.int .i64 0,.string ⟨#[]⟩,.slice none 0 0,.slice none 0 0,.int .i64 0] 26)).alloc (.cells #[.int .i64 7,.int .i64 0,.int .i64 0,.string ⟨#[]⟩,.slice none 0 0,.slice none 0 0,.int .i64 0] 26)) from by
  have:=aI ((w.alloc (.cells #[.pointer (some ⟨P,0,none⟩)] 43)).alloc (.cells #[.int .i64 0,.int .i64 0,.int .i64 0,.string ⟨#[]⟩,.slice none 0 0,.slice none 0 0,.int .i64 0] 26)) 26 #[.int .i64 7,.int .i64 0,.int .i64 0,.string ⟨#[]⟩,.slice none 0 0,.slice none 0 0,.int .i64 0];simpa using this)
 have B3:=aA (((But.of (P:=P) A1).trans (But.of A2)).trans (But.of A3));have C:C1 P (w.heap.size+1+1) (w.heap.size) (w.heap.size+1+1) (fun b=>w.heap.size+1+1<b):=⟨by omega,Nat.le_refl _,hP,by omega,by omega,by omega,by omega,fun b h1 h2=>h1⟩
 clear A1 A2 A3;clear H C Q3 K3;cases o with
 | bad l'=>
  go_enter Tryz.func183,Tryz.ntmps183;go_wp2_with fail;refine CC.out.mono ?_;rintro e w1 ⟨rfl,s1,b1⟩;have S1:=aA s1;have B1:=aA (B3.out.lo b1 (by omega));clear s1 b1 CC;unfold aV;go_wp2_with fail;exact⟨rfl,rfl,S1.out,B1.out⟩
 | ok s l'=>
  go_enter Tryz.func183,Tryz.ntmps183;go_wp2_with fail;refine CC.out.mono ?_;rintro e w1 ⟨rfl,⟨hlen,nv,kv,k1,q1,m1,r1⟩,s1,b1⟩;clear hlen;obtain⟨f1,g1,rfl⟩:=lK m1;obtain⟨f2,g2,rfl⟩:=iR r1;have S1:=aA s1;have B1:=aA (B3.out.lo b1 (by omega));have Z1:=aA (Gs Z3.out b1 (by omega) (by omega));have K1:=aA k1;have M1:=aA m1;have R1:=aA r1;clear s1 b1 k1 q1 m1 r1 CC S3 B3 Z3;obtain⟨c0,c1,c2,c3,c4,c5,c6⟩:=aN K1.out;obtain⟨r0,r1,r2,r3,r4,r5,r6⟩:=aN Z1.out;obtain⟨u0,u1,u2,u3,u4,u5,u6⟩:=bP Z1.out;have hg9:=aF Z1.out;have hv9:=aF K1.out;go_wp2_with fail;have Z:=bS hP (Nat.le_succ _) S1.out B1.out Z1.out (.int .i64 7) (.int .i64 0) (.int .i64 0) (.string ⟨#[]⟩) (.slice f1 s.1.length g1) (.slice f2 s.2.length g2) (.int .i64 0);exact bodyPost_ret (cJ rfl rfl Z.1) rfl ⟨⟨_,_,rfl,eN (Ot (fun b hb=>⟨by omega,by omega⟩) M1.out R1.out _ _ _ _ _ _ _)⟩,Z.2.1,Z.2.2⟩
theorem Kv (f:Nat) (hR:∀ g,g≤f→gS g):PM (f+2):=by
 intro P L l w hf H;unfold Pq;rw [PQ];refine MA P L l w _ H ?_;have hP:=H.out.lt;have A1:=(Below.refl _ w).alloc (Nat.le_refl _) (.cells #[.pointer (some ⟨P,0,none⟩)] 43);have A2:=(Below.refl _ (w.alloc (.cells #[.pointer (some ⟨P,0,none⟩)] 43))).alloc (Nat.le_refl _) (.cells #[.int .i64 0,.int .i64 0,.int .i64 0,.string ⟨#[]⟩,.slice none 0 0,.slice none 0 0,.int .i64 0] 26);have A3:=(Below.refl _ ((w.alloc (.cells #[.pointer (some ⟨P,0,none⟩)] 43)).alloc (.cells #[.int .i64 0,.int .i64 0,.int .i64 0,.string ⟨#[]⟩,.slice none 0 0,.slice none 0 0,.int .i64 0] 26))).alloc (Nat.le_refl _) (.cells #[.int .i64 7,.int .i64 0,.int .i64 0,.string ⟨#[]⟩,.slice none 0 0,.slice none 0 0,.int .i64 0] 26);have S3:=aA (((H.out.on A1).on A2).on A3);have Q3:=aA (aC (aC (aI w 43 #[.pointer (some ⟨P,0,none⟩)]) A2) A3);have Z3:=aA (show dP (w.heap.size+1) 26 #[.int .i64 0,.int .i64 0,.int .i64 0,.string ⟨#[]⟩,.slice none 0 0,.slice none 0 0,.int .i64 0] (((w.alloc (.cells #[.pointer (some ⟨P,0,none⟩)] 43)).alloc (.cells #[.int .i64 0,.int .i64 0,.int .i64 0,.string ⟨#[]⟩,.slice none 0 0,.slice none 0 0,.int .i64 0] 26)).alloc (.cells #[.int .i64 7,.int .i64 0,.int .i64 0,.string ⟨#[]⟩,.slice none 0 0,.slice none 0 0,.int .i64 0] 26)) from by
  have:=aC (aI (w.alloc (.cells #[.pointer (some ⟨P,0,none⟩)] 43)) 26 #[.int .i64 0,.int .i64 0,.int .i64 0,.string ⟨#[]⟩,.slice none 0 0,.slice none 0 0,.int .i64 0]) A3;simpa using this)
 have K3:=aA (show dP (w.heap.size+1+1) 26 #[.int .i64 7,.int .i64 0,.int .i64 0,.string ⟨#[]⟩,.slice none 0 0,.slice none 0 0,.int .i64 0] (((w.alloc (.cells #[.pointer (some ⟨P,0,none⟩)] 43)).alloc (.cells #[.int .i64 0,.int .i64 0,.int .i64 0,.string ⟨#[]⟩,.slice none 0 0,.slice none 0 0,.int .i64 0] 26)).alloc (.cells #[.int .i64 7,.int .i64 0,.int .i64 0,.string ⟨#[]⟩,.slice none 0 0,.slice none 0 0,.int .i64 0] 26)) from by
  have:=aI ((w.alloc (.cells #[.pointer (some ⟨P,0,none⟩)] 43)).alloc (.cells #[.int .i64 0,.int .i64 0,.int .i64 0,.string ⟨#[]⟩,.slice none 0 0,.slice none 0 0,.int .i64 0] 26)) 26 #[.int .i64 7,.int .i64 0,.int .i64 0,.string ⟨#[]⟩,.slice none 0 0,.slice none 0 0,.int .i64 0];simpa using this)
 have B3:=aA (((But.of (P:=P) A1).trans (But.of A2)).trans (But.of A3));have C:C1 P (w.heap.size+1+1) (w.heap.size) (w.heap.size+1+1) (fun b=>w.heap.size+1+1<b):=⟨by omega,Nat.le_refl _,hP,by omega,by omega,by omega,by omega,fun b h1 h2=>h1⟩
 clear A1 A2 A3;exact aA (vE _ (fun _ _=>by kernel_rfl) 40 125 _ _ _ (Mx P (w.heap.size+1+1) (w.heap.size) (w.heap.size+1+1) (fun b=>w.heap.size+1+1<b) 7 0) P (w.heap.size+1+1) L (fun s a b h k=>⟨h.1,Iy C s a b h.2 k⟩) (fun s=>s.2.length) kW f (by omega) (by omega) (fun g hg=>Ku g (hR g hg) P _ _ _ L _ C 7 0) (fun g s s' l l' w' S h=>My P L g s s' l l' w' S h) l ([],[]) _ (by omega) rfl (by simp) S3 (aA ⟨rfl,IA K3.out Q3.out⟩))
end Go.Proofs.YtdnnmjhfidimcaaGreatDoor
