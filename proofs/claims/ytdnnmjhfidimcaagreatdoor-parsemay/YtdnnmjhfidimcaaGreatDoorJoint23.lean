/- A call's arguments. One argument more. Names in a row that grows. -/
import Derived.Test.YtdnnmjhfidimcaaGreatDoorJoint22
import Derived.Test.YtdnnmjhfidimcaaGreatDoorJoint21
import Derived.Test.YtdnnmjhfidimcaaGreatDoorTk
import Derived.Deep.AppendLies
namespace Go.Proofs.YtdnnmjhfidimcaaGreatDoor
set_option maxRecDepth 100000
set_option maxHeartbeats 12800000
open Go.RowKit
structure C1 (P kb pb lo:Nat) (ok:Nat→Prop):Prop where
 p:P<lo
 k:lo≤kb
 q:P<pb
 ne:kb≠pb
 nk:¬ ok kb
 nq:¬ ok pb
 np:¬ ok P
 up:∀ b,kb<b→pb<b→ok b
theorem Kh (P:Nat) (L:List Tok) (ok:Nat→Prop) (x:Nd) (a1 a2:Option Addr) (q1 q2:Nat) (w:World) (o:PL)
  (CC:Hid (Calls Tryz.prog 187 #[.pointer (some ⟨P,0,none⟩),.int .i64 6,.string ⟨#[41]⟩,.func (.func 188) #[] #[.pointer (some ⟨w.heap.size+1+1+1,0,none⟩),.pointer (some ⟨w.heap.size,0,none⟩)]] ((((w.alloc (.cells #[.pointer (some ⟨P,0,none⟩)] 43)).alloc (.cells #[.int .i64 x.kind,.int .i64 x.op,.int .i64 x.num,.string x.str,.slice a1 x.names.length q1,.slice a2 x.kids.length q2,.int .i64 x.pl] 26)).alloc (.cells #[.int .i64 x.kind,.int .i64 x.op,.int .i64 x.num,.string x.str,.slice a1 x.names.length q1,.slice a2 x.kids.length q2,.int .i64 x.pl] 26)).alloc (.cells #[.slice (some ⟨w.heap.size+1+1,0,none⟩) 1 1] 24)) (yH P (w.heap.size+1+1+1) (w.heap.size) w.heap.size L (fun b=>ok b∧b≠w.heap.size+1+1+1∧b≠w.heap.size) ((((w.alloc (.cells #[.pointer (some ⟨P,0,none⟩)] 43)).alloc (.cells #[.int .i64 x.kind,.int .i64 x.op,.int .i64 x.num,.string x.str,.slice a1 x.names.length q1,.slice a2 x.kids.length q2,.int .i64 x.pl] 26)).alloc (.cells #[.int .i64 x.kind,.int .i64 x.op,.int .i64 x.num,.string x.str,.slice a1 x.names.length q1,.slice a2 x.kids.length q2,.int .i64 x.pl] 26)).alloc (.cells #[.slice (some ⟨w.heap.size+1+1,0,none⟩) 1 1] 24)) o))) :
  Calls Tryz.prog 174 #[.pointer (some ⟨P,0,none⟩),fR x (.slice a1 x.names.length q1) (.slice a2 x.kids.length q2)] w (LX P L ok w o):=by
 have B0:=aA (show But P w ((((w.alloc (.cells #[.pointer (some ⟨P,0,none⟩)] 43)).alloc (.cells #[.int .i64 x.kind,.int .i64 x.op,.int .i64 x.num,.string x.str,.slice a1 x.names.length q1,.slice a2 x.kids.length q2,.int .i64 x.pl] 26)).alloc (.cells #[.int .i64 x.kind,.int .i64 x.op,.int .i64 x.num,.string x.str,.slice a1 x.names.length q1,.slice a2 x.kids.length q2,.int .i64 x.pl] 26)).alloc (.cells #[.slice (some ⟨w.heap.size+1+1,0,none⟩) 1 1] 24)) from (((But.of ((Below.refl _ w).alloc (Nat.le_refl _) _)).trans (But.of ((Below.refl _ _).alloc (Nat.le_refl _) _))).trans (But.of ((Below.refl _ _).alloc (Nat.le_refl _) _))).trans (But.of ((Below.refl _ _).alloc (Nat.le_refl _) _)));have lift:∀ w',ButLo w.heap.size P ((((w.alloc (.cells #[.pointer (some ⟨P,0,none⟩)] 43)).alloc (.cells #[.int .i64 x.kind,.int .i64 x.op,.int .i64 x.num,.string x.str,.slice a1 x.names.length q1,.slice a2 x.kids.length q2,.int .i64 x.pl] 26)).alloc (.cells #[.int .i64 x.kind,.int .i64 x.op,.int .i64 x.num,.string x.str,.slice a1 x.names.length q1,.slice a2 x.kids.length q2,.int .i64 x.pl] 26)).alloc (.cells #[.slice (some ⟨w.heap.size+1+1,0,none⟩) 1 1] 24)) w'→But P w w':=fun w' h=>⟨h.os.trans B0.out.os,h.tape.trans B0.out.tape,h.output.trans B0.out.output,Nat.le_trans B0.out.size h.size,fun k h1 h2=>(h.block k h1 h2).trans (B0.out.block k h1 h2)⟩
 have LF:=aA lift;clear lift B0;unfold fR;cases o with
 | bad l'=>
  go_enter Tryz.func174,Tryz.ntmps174;go_wp2_with fail;refine CC.out.mono ?_;rintro e w1 ⟨rfl,s1,b1⟩;have S1:=aA s1;have B1:=aA (LF.out w1 b1);clear s1 b1 CC LF;unfold aV;go_wp2_with fail;exact⟨rfl,rfl,S1.out,B1.out⟩
 | ok ns ks l'=>
  go_enter Tryz.func174,Tryz.ntmps174;go_wp2_with fail;refine CC.out.mono ?_;rintro e w1 ⟨rfl,⟨v,k1,r1⟩,_,s1,b1⟩;obtain⟨ao,cap,rfl⟩:=iR r1;have S1:=aA s1;have B1:=aA (LF.out w1 b1);have K1:=aA (zT (ok':=ok) (jT r1) (fun b h _=>h.1));have c1:=aB k1 0;simp at c1;clear s1 b1 CC LF r1 k1;go_wp2_with fail;go_ret;exact⟨⟨_,rfl,K1.out⟩,S1.out,B1.out⟩
theorem Gk (f:Nat) (h1:∀ g,g≤f→∀ (P kb pb lo:Nat) (L:List Tok) (ok:Nat→Prop),C1 P kb pb lo ok→CA g P kb pb lo L ok):Ip (f+1):=by
 intro P L l ok x nv kv w hf FR H N;obtain⟨a1,q1,a2,q2,rfl,rfl⟩:=hM N.out;have hP:=H.out.lt;refine Kh P L ok x a1 a2 q1 q2 w _ ?_;have A1:=(Below.refl _ w).alloc (Nat.le_refl _) (.cells #[.pointer (some ⟨P,0,none⟩)] 43);have A2:=(Below.refl _ (w.alloc (.cells #[.pointer (some ⟨P,0,none⟩)] 43))).alloc (Nat.le_refl _) (.cells #[.int .i64 x.kind,.int .i64 x.op,.int .i64 x.num,.string x.str,.slice a1 x.names.length q1,.slice a2 x.kids.length q2,.int .i64 x.pl] 26);have A3:=(Below.refl _ ((w.alloc (.cells #[.pointer (some ⟨P,0,none⟩)] 43)).alloc (.cells #[.int .i64 x.kind,.int .i64 x.op,.int .i64 x.num,.string x.str,.slice a1 x.names.length q1,.slice a2 x.kids.length q2,.int .i64 x.pl] 26))).alloc (Nat.le_refl _) (.cells #[.int .i64 x.kind,.int .i64 x.op,.int .i64 x.num,.string x.str,.slice a1 x.names.length q1,.slice a2 x.kids.length q2,.int .i64 x.pl] 26);have A4:=(Below.refl _ (((w.alloc (.cells #[.pointer (some ⟨P,0,none⟩)] 43)).alloc (.cells #[.int .i64 x.kind,.int .i64 x.op,.int .i64 x.num,.string x.str,.slice a1 x.names.length q1,.slice a2 x.kids.length q2,.int .i64 x.pl] 26)).alloc (.cells #[.int .i64 x.kind,.int .i64 x.op,.int .i64 x.num,.string x.str,.slice a1 x.names.length q1,.slice a2 x.kids.length q2,.int .i64 x.pl] 26))).alloc (Nat.le_refl _) (.cells #[.slice (some ⟨w.heap.size+1+1,0,none⟩) 1 1] 24);have S4:=aA ((((H.out.on A1).on A2).on A3).on A4);have Q4:=aA (aC (aC (aC (aI w 43 #[.pointer (some ⟨P,0,none⟩)]) A2) A3) A4);have K4:=aA (show dP (w.heap.size+1+1+1) 24 #[.slice (some ⟨w.heap.size+1+1,0,none⟩) 1 1] ((((w.alloc (.cells #[.pointer (some ⟨P,0,none⟩)] 43)).alloc (.cells #[.int .i64 x.kind,.int .i64 x.op,.int .i64 x.num,.string x.str,.slice a1 x.names.length q1,.slice a2 x.kids.length q2,.int .i64 x.pl] 26)).alloc (.cells #[.int .i64 x.kind,.int .i64 x.op,.int .i64 x.num,.string x.str,.slice a1 x.names.length q1,.slice a2 x.kids.length q2,.int .i64 x.pl] 26)).alloc (.cells #[.slice (some ⟨w.heap.size+1+1,0,none⟩) 1 1] 24)) from by
  have:=aI (((w.alloc (.cells #[.pointer (some ⟨P,0,none⟩)] 43)).alloc (.cells #[.int .i64 x.kind,.int .i64 x.op,.int .i64 x.num,.string x.str,.slice a1 x.names.length q1,.slice a2 x.kids.length q2,.int .i64 x.pl] 26)).alloc (.cells #[.int .i64 x.kind,.int .i64 x.op,.int .i64 x.num,.string x.str,.slice a1 x.names.length q1,.slice a2 x.kids.length q2,.int .i64 x.pl] 26)) 24 #[.slice (some ⟨w.heap.size+1+1,0,none⟩) 1 1];simpa using this)
 have N2:rI (fun b=>ok b∧b≠w.heap.size+1+1+1∧b≠w.heap.size) ((w.alloc (.cells #[.pointer (some ⟨P,0,none⟩)] 43)).alloc (.cells #[.int .i64 x.kind,.int .i64 x.op,.int .i64 x.num,.string x.str,.slice a1 x.names.length q1,.slice a2 x.kids.length q2,.int .i64 x.pl] 26)) x (.slice a1 x.names.length q1) (.slice a2 x.kids.length q2):=aU (aT A2) (aU (aT A1) (DQ N.out (fun b h hb=>⟨h,by omega,by omega⟩)));have R3:=DY (lo:=w.heap.size) (ok:=(fun b=>ok b∧b≠w.heap.size+1+1+1∧b≠w.heap.size)) (w:=((w.alloc (.cells #[.pointer (some ⟨P,0,none⟩)] 43)).alloc (.cells #[.int .i64 x.kind,.int .i64 x.op,.int .i64 x.num,.string x.str,.slice a1 x.names.length q1,.slice a2 x.kids.length q2,.int .i64 x.pl] 26))) (by simp;omega) ⟨FR.up _ (by simp;omega),by simp,by simp;omega⟩ N2;have R4:=aA (show jC w.heap.size (fun b=>ok b∧b≠w.heap.size+1+1+1∧b≠w.heap.size) ((((w.alloc (.cells #[.pointer (some ⟨P,0,none⟩)] 43)).alloc (.cells #[.int .i64 x.kind,.int .i64 x.op,.int .i64 x.num,.string x.str,.slice a1 x.names.length q1,.slice a2 x.kids.length q2,.int .i64 x.pl] 26)).alloc (.cells #[.int .i64 x.kind,.int .i64 x.op,.int .i64 x.num,.string x.str,.slice a1 x.names.length q1,.slice a2 x.kids.length q2,.int .i64 x.pl] 26)).alloc (.cells #[.slice (some ⟨w.heap.size+1+1,0,none⟩) 1 1] 24)) (.slice (some ⟨w.heap.size+1+1,0,none⟩) 1 1) [x] from by
  have:=bD R3 A4;simpa [fL] using this)
 have hcl:C1 P (w.heap.size+1+1+1) (w.heap.size) w.heap.size (fun b=>ok b∧b≠w.heap.size+1+1+1∧b≠w.heap.size):=⟨hP,by omega,hP,by omega,fun h=>h.2.1 rfl,fun h=>h.2.2 rfl,fun h=>FR.no h.1,fun b h1 h2=>⟨FR.up b (by omega),by omega,by omega⟩⟩
 clear A1 A2 A3 A4 R3 N2;rw [jB];by_cases hh:bZ l [41]=true
 ·obtain⟨t,q,rfl,ht⟩:=aX hh;rw [if_pos hh];exact aA (FY P _ _ _ L _ t q _ [x] _ (by simp;omega) (by omega) (by omega) (fun h=>FR.no h.1) S4 K4 Q4 R4 ht)
 ·rw [if_neg hh];cases hq:aS f 1 l with
  | bad l1=>
   rw [PR.bindL_bad];exact aA (Ml f P _ _ _ L _ (h1 f (Nat.le_refl _) P _ _ _ L _ hcl) l _ [x] _ (by omega) (by simp) (by simp;omega) S4 K4 Q4 R4 (by simpa using hh) l1 hq)
  | ok y b l1=>
   rw [PR.bindL_ok];exact aA (JZ f P _ _ _ L _ (fun g hg=>h1 g hg P _ _ _ L _ hcl) l _ [x] _ (by omega) rfl (by simp;omega) (by omega) (by omega) (fun h=>FR.no h.1) S4 K4 Q4 R4 (by simpa using hh) y b l1 hq)
theorem cX {g:Nat} {T:TypeId} {cs:Array Value} {a b:World} {row:Option Nat} (h:dP g T cs a) (k:a.grownBy b row) (hne:some g≠row):dP g T cs b:=(k.block g (aF h) hne).trans h
theorem nC {lo:Nat} {ok:Nat→Prop} {w:World} {v:Value} {x:Nd} {nv kv:Value} (h:tP lo w x nv kv) (hup:∀ b,lo≤b→ok b) (hv:∀ g,v.ownBlock=some g→g<lo):wG (Fb ok v w) w x nv kv:=
 gU (fun b hb=>⟨⟨hup b hb.1,hb.2,fun e=>by have:=hv b e.symm;have:=hb.1;omega⟩,rfl⟩) _ _ _ h
theorem tD {ok:Nat→Prop} {a c:World} {v:Value} {x:Nd} {nv kv:Value} (h:wG (Fb ok v a) a x nv kv) (k:Below a.heap.size a c):wG (Fb ok v c) c x nv kv:=
 gU (fun b hb=>⟨⟨hb.1,Nat.lt_of_lt_of_le hb.2.1 k.size,hb.2.2⟩,k.block b hb.2.1⟩) _ _ _ h
theorem oN {w:World} {z:Nat} (h:dP z 26 #[.int .i64 0,.int .i64 0,.int .i64 0,.string ⟨#[]⟩,.slice none 0 0,.slice none 0 0,.int .i64 0] w):∀ (j:Nat) (u:Value),zl[j]? = some u→w.cell? ((⟨z,0,none⟩:Addr).add j)=some u:=by
 intro j u hj;have e:(⟨z,0,none⟩:Addr).add j=⟨z,j,none⟩:=by unfold Addr.add;split<;>simp_all
 rw [e,aB h];simpa [zl] using hj
theorem uC:∀ u∈zl,u.oneCell'=true:=by
 intro u hu;simp only [zl,List.mem_cons,List.not_mem_nil,or_false] at hu;rcases hu with rfl | rfl | rfl | rfl | rfl | rfl | rfl<;>rfl
structure QN (lo n g kb pb:Nat) (w:World):Prop where
 lo:lo≤g
 nk:g≠kb
 nq:g≠pb
 blk:∃ cur,dP g 26 cur w∧(n+1)*7≤cur.size
theorem qO {lo g cap kb pb:Nat} {ok:Nat→Prop} {a b:World} {v:Value} {ks:List Nd} {ys:List Value} (hown:b.ownsRow lo 26 7 (.slice (some ⟨g,0,none⟩) (ks.length+1) cap) (ks.length+1) ys) (_hgrow:a.grownBy b v.ownBlock) (hat:v.ownBlock=some g∨g=a.heap.size)
  (hR:jC lo ok a v ks) (hl:lo≤a.heap.size) (h1:kb<a.heap.size) (h2:pb<a.heap.size) (nk:¬ ok kb) (nq:¬ ok pb):QN lo ks.length g kb pb b:=by
 refine⟨?_,?_,?_,?_⟩
 ·rcases hat with h | h
  ·exact (bA hR g h).2.1
  ·omega
 ·rcases hat with h | h
  ·exact fun e=>nk (e▸(bA hR g h).1)
  ·omega
 ·rcases hat with h | h
  ·exact fun e=>nq (e▸(bA hR g h).1)
  ·omega
 ·rcases hown.2 with ⟨h1,_⟩ | ⟨g2,cap2,cur2,h1,h2,h3,h4,h5,h6,h7⟩
  ·cases h1
  ·injection h1 with e1 e2 e3;injection e1 with e1;injection e1 with e1;subst e1;exact⟨cur2,h3,by rw [h6];exact Nat.mul_le_mul_right 7 h4⟩
theorem oO {lo g cap:Nat} {ok:Nat→Prop} {a b:World} {v:Value} {ks:List Nd} {cs:List Value} {x:Nd} {nv kv:Value} (hown:b.ownsRow lo 26 7 (.slice (some ⟨g,0,none⟩) (ks.length+1) cap) (ks.length+1) (cs++zl)) (hgr:a.grownBy b v.ownBlock) (hat:v.ownBlock=some g∨g=a.heap.size)
  (hr:wK (Fb ok v a) a ks cs) (hg:∀ k,v.ownBlock=some k→ok k) (hx:wG (Fb ok v a) a x nv kv) (hup:∀ k,a.heap.size≤k→ok k) (hl:lo≤a.heap.size) :
  ∀ (c:World) (cur:Array Value),dP g 26 cur b→dP g 26 (((((((cur.setIfInBounds (ks.length*7) (.int .i64 x.kind)).setIfInBounds (ks.length*7+1) (.int .i64 x.op)).setIfInBounds (ks.length*7+2) (.int .i64 x.num)).setIfInBounds (ks.length*7+3) (.string x.str)).setIfInBounds (ks.length*7+4) nv).setIfInBounds (ks.length*7+5) kv).setIfInBounds (ks.length*7+6) (.int .i64 x.pl)) c→
   b.heap.size≤c.heap.size→(∀ k,ok k→k<b.heap.size→k≠g→c.heap[k]? = b.heap[k]?)→jC lo ok c (.slice (some ⟨g,0,none⟩) (ks.length+1) cap) (ks++[x]):=
 fun _ cur hb hc hcs hck=>Md hl hup hr hg hx hown hgr hat ⟨cur,hb,hc⟩ hcs hck
theorem lY {g n:Nat} {cur:Array Value} {w:World} (h:dP g 26 cur w) (hc:(n+1)*7≤cur.size) :
  (∃ u,w.cell? ⟨g,n*7,none⟩=some u)∧(∃ u,w.cell? ⟨g,n*7+1,none⟩=some u)∧(∃ u,w.cell? ⟨g,n*7+2,none⟩=some u)∧(∃ u,w.cell? ⟨g,n*7+3,none⟩=some u)∧(∃ u,w.cell? ⟨g,n*7+4,none⟩=some u)∧(∃ u,w.cell? ⟨g,n*7+5,none⟩=some u)∧(∃ u,w.cell? ⟨g,n*7+6,none⟩=some u):=by
 have k:∀ i,i<cur.size→∃ u,w.cell? ⟨g,i,none⟩=some u:=fun i hi=>⟨cur[i],by rw [aB h];simp [hi]⟩
 exact⟨k _ (by omega),k _ (by omega),k _ (by omega),k _ (by omega),k _ (by omega),k _ (by omega),k _ (by omega)⟩
theorem lZ {g:Nat} {cur:Array Value} {w:World} (h:dP g 26 cur w) (n:Nat) :
  w.frozen? ⟨g,n*7,none⟩=false∧w.frozen? ⟨g,n*7+1,none⟩=false∧w.frozen? ⟨g,n*7+2,none⟩=false∧w.frozen? ⟨g,n*7+3,none⟩=false∧w.frozen? ⟨g,n*7+4,none⟩=false∧w.frozen? ⟨g,n*7+5,none⟩=false∧w.frozen? ⟨g,n*7+6,none⟩=false:=
 ⟨bG h _,bG h _,bG h _,bG h _,bG h _,bG h _,bG h _⟩
def put7n (w:World) (g i:Nat) (a b c d e f p:Value):World:=((((((w.setCell ⟨g,i,none⟩ a).setCell ⟨g,i+1,none⟩ b).setCell ⟨g,i+2,none⟩ c).setCell ⟨g,i+3,none⟩ d).setCell ⟨g,i+4,none⟩ e).setCell ⟨g,i+5,none⟩ f).setCell ⟨g,i+6,none⟩ p
theorem qP {w:World} {g i k:Nat} (h:k≠g) (a b c d e f p:Value):(put7n w g i a b c d e f p).heap[k]? = w.heap[k]?:=by
 unfold put7n;rw [Below.heap_setCell _ _ _ _ h,Below.heap_setCell _ _ _ _ h,Below.heap_setCell _ _ _ _ h,Below.heap_setCell _ _ _ _ h,Below.heap_setCell _ _ _ _ h,Below.heap_setCell _ _ _ _ h,Below.heap_setCell _ _ _ _ h]
theorem Aa (w:World) (g i:Nat) (a b c d e f p:Value):(put7n w g i a b c d e f p).heap.size=w.heap.size:=by simp [put7n,World.setCell]
theorem cE {w:World} {g i k j:Nat} {v:Option Value} (h:w.cell? ⟨k,j,none⟩=v) (hk:k≠g) (a b c d e f p:Value):(put7n w g i a b c d e f p).cell? ⟨k,j,none⟩=v:=by
 have hb:=qP (w:=w) (i:=i) hk a b c d e f p;generalize put7n w g i a b c d e f p=u at hb ⊢;exact (World.cell?_of_block (w:=w) hb).trans h
theorem lJ {w:World} {g i k j:Nat} {v:Bool} (h:w.frozen? ⟨k,j,none⟩=v) (hk:k≠g) (a b c d e f p:Value):(put7n w g i a b c d e f p).frozen? ⟨k,j,none⟩=v:=by
 rw [← h];unfold World.frozen?;rw [qP hk]
theorem DZ (w:World) (g i:Nat) (a b c d e f p:Value):(put7n w g i a b c d e f p).os=w.os∧(put7n w g i a b c d e f p).tape=w.tape∧(put7n w g i a b c d e f p).output=w.output:=by
 simp [put7n,World.setCell]
theorem BH {w:World} {g i:Nat} {T:TypeId} {cur:Array Value} (h:dP g T cur w) (a b c d e f p:Value):dP g T (((((((cur.setIfInBounds i a).setIfInBounds (i+1) b).setIfInBounds (i+2) c).setIfInBounds (i+3) d).setIfInBounds (i+4) e).setIfInBounds (i+5) f).setIfInBounds (i+6) p) (put7n w g i a b c d e f p):=
 dQ (dQ (dQ (dQ (dQ (dQ (dQ h _ _) _ _) _ _) _ _) _ _) _ _) _ _
structure Wrote (a c:World) (g kb:Nat) (T:TypeId) (cg ck:Array Value):Prop where
 os:c.os=a.os
 tape:c.tape=a.tape
 output:c.output=a.output
 size:c.heap.size=a.heap.size
 hg:dP g 26 cg c
 hk:dP kb T ck c
 rest:∀ k,k≠g→k≠kb→c.heap[k]? = a.heap[k]?
theorem qQ {a:World} {g kb n j:Nat} {T:TypeId} {cur ck:Array Value} {V:Value} (h:dP g 26 cur a) (hk:dP kb T ck a) (hne:g≠kb) (x0 x1 x2 x3 x4 x5 x6:Value) :
  Wrote a ((put7n a g (n*7) x0 x1 x2 x3 x4 x5 x6).setCell ⟨kb,j,none⟩ V) g kb T (((((((cur.setIfInBounds (n*7) x0).setIfInBounds (n*7+1) x1).setIfInBounds (n*7+2) x2).setIfInBounds (n*7+3) x3).setIfInBounds (n*7+4) x4).setIfInBounds (n*7+5) x5).setIfInBounds (n*7+6) x6) (ck.setIfInBounds j V):=by
 have h1:=DZ a g (n*7) x0 x1 x2 x3 x4 x5 x6;have h2:=Aa a g (n*7) x0 x1 x2 x3 x4 x5 x6;have h3:=BH (i:=n*7) h x0 x1 x2 x3 x4 x5 x6;have h4:=fun k (hk:k≠g)=>qP (w:=a) (i:=n*7) hk x0 x1 x2 x3 x4 x5 x6
 generalize put7n a g (n*7) x0 x1 x2 x3 x4 x5 x6=u at *
 exact⟨h1.1,h1.2.1,h1.2.2,by simpa [World.setCell] using h2,(Below.heap_setCell _ _ _ _ hne).trans h3,dQ ((h4 kb (Ne.symm hne)).trans hk) _ _,fun k h5 h6=>(Below.heap_setCell _ _ _ _ h6).trans (h4 k h5)⟩
theorem qR {a:World} {g kb n j:Nat} {T:TypeId} {cur ck:Array Value} {V:Value} (h:dP g 26 cur a) (hk:dP kb T ck a) (hne:g≠kb) (x0 x1 x2 x3 x4 x5 x6:Value) :
  Wrote a (put7n (a.setCell ⟨kb,j,none⟩ V) g (n*7) x0 x1 x2 x3 x4 x5 x6) g kb T (((((((cur.setIfInBounds (n*7) x0).setIfInBounds (n*7+1) x1).setIfInBounds (n*7+2) x2).setIfInBounds (n*7+3) x3).setIfInBounds (n*7+4) x4).setIfInBounds (n*7+5) x5).setIfInBounds (n*7+6) x6) (ck.setIfInBounds j V):=by
 have e1:(a.setCell ⟨kb,j,none⟩ V).os=a.os∧(a.setCell ⟨kb,j,none⟩ V).tape=a.tape∧(a.setCell ⟨kb,j,none⟩ V).output=a.output∧(a.setCell ⟨kb,j,none⟩ V).heap.size=a.heap.size:=by simp [World.setCell]
 have e2:dP g 26 cur (a.setCell ⟨kb,j,none⟩ V):=(Below.heap_setCell _ _ _ _ hne).trans h;have e3:=dQ hk j V;have e4:∀ k,k≠kb→(a.setCell ⟨kb,j,none⟩ V).heap[k]? = a.heap[k]?:=fun k hk=>Below.heap_setCell _ _ _ _ hk
 generalize a.setCell ⟨kb,j,none⟩ V=u at *
 have h1:=DZ u g (n*7) x0 x1 x2 x3 x4 x5 x6;have h2:=Aa u g (n*7) x0 x1 x2 x3 x4 x5 x6;have h3:=BH (i:=n*7) e2 x0 x1 x2 x3 x4 x5 x6;have h4:=fun k (hk:k≠g)=>qP (w:=u) (i:=n*7) hk x0 x1 x2 x3 x4 x5 x6
 generalize put7n u g (n*7) x0 x1 x2 x3 x4 x5 x6=c at *
 exact⟨h1.1.trans e1.1,h1.2.1.trans e1.2.1,h1.2.2.trans e1.2.2.1,h2.trans e1.2.2.2,h3,(h4 kb (Ne.symm hne)).trans e3,fun k h5 h6=>(h4 k h5).trans (e4 k h6)⟩
theorem Wrote.below {a c:World} {g kb B:Nat} {T:TypeId} {cg ck:Array Value} (h:Wrote a c g kb T cg ck) (h1:B≤g) (h2:B≤kb):Below B a c:=
 ⟨h.os,h.tape,h.output,by rw [h.size];exact Nat.le_refl _,fun k hk=>h.rest k (by omega) (by omega)⟩
theorem Wrote.butlo {a c:World} {g kb lo P:Nat} {T:TypeId} {cg ck:Array Value} (h:Wrote a c g kb T cg ck) (h1:lo≤g) (h2:lo≤kb):ButLo lo P a c:=
 ⟨h.os,h.tape,h.output,by rw [h.size];exact Nat.le_refl _,fun k hk _=>h.rest k (by omega) (by omega)⟩
set_option linter.unusedSimpArgs false in
set_option linter.unusedVariables false in
theorem Ki (P kb pb lo:Nat) (L l:List Tok) (ok:Nat→Prop) (C:C1 P kb pb lo ok) (v:Value) (ks:List Nd) (w:World) (hkl:ks.length≤40) (hlw:lo≤w.heap.size)
  (H:Hid (PSt P L w l)) (HK:Hid (dP kb 24 #[v] w)) (HQ:Hid (dP pb 43 #[.pointer (some ⟨P,0,none⟩)] w)) (HRw:Hid (jC lo ok w v ks)) (l':List Tok)
  (HC:Hid (∀ w',Hid (PSt P L w' l)→Calls Tryz.prog 24 #[.pointer (some ⟨P,0,none⟩)] w' (bR P L w' (.bad l')))) :
  Calls Tryz.prog 188 #[.pointer (some ⟨kb,0,none⟩),.pointer (some ⟨pb,0,none⟩)] w (FX P kb pb lo L ok ks w (.bad l')):=by
 obtain⟨ao,cap,rfl⟩:=iR HRw.out;have DR:=(Below.refl w.heap.size w).drew;have S:=aA (H.out.on DR);have G:=aA (aC HK.out DR);have Q:=aA (aC HQ.out DR);have R:=aA (bD HRw.out DR);have B:=aA (ButLo.of (lo:=lo) (But.of (P:=P) DR) hlw);have hkP:P<kb:=by have:=C.k;have:=C.p;omega
 have hqP:P<pb:=by have:=C.q;have:=C.p;omega
 have hP:P<lo:=C.p;clear H HK HQ HRw DR;go_enter Tryz.func188,Tryz.ntmps188;go_wp2_with fail;refine wp_region_held_drew (S:=(fun a=>a.cell? ⟨pb,0,none⟩=some (.pointer (some ⟨P,0,none⟩)))) (by kernel_rfl) ?_ (fun hHeld=>?_)
 ·exact (aB Q.out 0).trans rfl
 obtain⟨w0,hw0⟩:∃ x,w.drew=x:=⟨_,rfl⟩
 rw [hw0] at hHeld S G Q R B ⊢;have hz0:w.heap.size=w0.heap.size:=by rw [← hw0];rfl
 clear hw0;refine wpAnyH_take (i:=1) (v:=?vk1) rfl (by kernel_rfl) (by kernel_rfl) (by kernel_rfl) (fun _ _ _ h=>h) (Or.inl ⟨by rfl,?hyk1⟩) (by assumption) ?_
 case hyk1=>(intro w hSw;go_simp<;>(try with_reducible rfl))
 simp only [Act.put,List.setIfInBounds_toArray,List.set_cons_zero,List.set_cons_succ,List.getElem_toArray,List.getElem_cons_succ,List.getElem_cons_zero];refine wpAnyH_ready (rs:=[0,2,4]) (by kernel_rfl) (by simp) ?_;refine AllReadyH.cons rfl (fun K hK=>?_) (AllReadyH.cons rfl (fun K hK=>?_) (AllReadyH.cons rfl (fun K hK=>?_) AllReadyH.nil));have HK:=aA hK;clear hK;have k0:=aB G.out 0;simp at k0;go_simp;refine HK.out.out _ _ ?_ (fun hHeld=>?_)
 ·exact (aB Q.out 0).trans rfl
 clear HK K k0;refine wpAnyH_take (i:=3) (v:=?vk2) rfl (by kernel_rfl) (by kernel_rfl) (by kernel_rfl) (fun _ _ _ h=>h) (Or.inl ⟨by rfl,?hyk2⟩) (by assumption) ?_
 case hyk2=>(intro w hSw;go_simp<;>(try with_reducible rfl))
 simp only [Act.put,List.setIfInBounds_toArray,List.set_cons_zero,List.set_cons_succ,List.getElem_toArray,List.getElem_cons_succ,List.getElem_cons_zero];refine wpAnyH_ready (rs:=[2,4]) (by kernel_rfl) (by simp) ?_;refine AllReadyH.cons rfl (fun K hK=>?_) (AllReadyH.cons rfl (fun K hK=>?_) AllReadyH.nil);clear hK;go_simp;refine (HC.out _ S).mono ?_;rintro e3 wc' ⟨rfl,s3,b3⟩;have S3:=aA s3;have B3:=aA (B.out.trans (ButLo.of b3 (by have:=B.out.size;omega)));clear s3 b3;unfold aV;go_wp2_with fail;exact⟨rfl,rfl,S3.out,B3.out⟩;have HK:=aA hK;clear hK;go_simp;have AZ:=(Below.refl _ w0).alloc (Nat.le_refl _) (.cells #[.int .i64 0,.int .i64 0,.int .i64 0,.string ⟨#[]⟩,.slice none 0 0,.slice none 0 0,.int .i64 0] 26);have Y:=aA (aI w0 26 #[.int .i64 0,.int .i64 0,.int .i64 0,.string ⟨#[]⟩,.slice none 0 0,.slice none 0 0,.int .i64 0]);replace S:=aA (S.out.on AZ);replace G:=aA (aC G.out AZ);replace Q:=aA (aC Q.out AZ);replace R:=aA (bD R.out AZ);replace B:=aA (B.out.trans (ButLo.of (But.of (P:=P) AZ) (by have:=B.out.size;omega)));obtain⟨zb,hzb⟩:∃ zb,w0.heap.size=zb:=⟨_,rfl⟩
 rw [hzb] at Y ⊢;obtain⟨w1,hw⟩:∃ x,w0.alloc (.cells #[.int .i64 0,.int .i64 0,.int .i64 0,.string ⟨#[]⟩,.slice none 0 0,.slice none 0 0,.int .i64 0] 26)=x:=⟨_,rfl⟩
 rw [hw] at Y S G Q R B ⊢;have hz1:w1.heap.size=w0.heap.size+1:=by rw [← hw];simp
 refine HK.out.out _ _ ?_ (fun hHeld=>?_)
 ·exact (aB Q.out 0).trans rfl
 clear HK K AZ hw;refine iV 2 (fun K hK=>?_);clear hK;go_simp;refine (HC.out _ S).mono ?_;rintro e3 wc' ⟨rfl,s3,b3⟩;have S3:=aA s3;have B3:=aA (B.out.trans (ButLo.of b3 (by have:=B.out.size;omega)));clear s3 b3;unfold aV;go_wp2_with fail;exact⟨rfl,rfl,S3.out,B3.out⟩;clear hK;go_simp;refine (HC.out _ S).mono ?_;rintro e3 wc' ⟨rfl,s3,b3⟩;have S3:=aA s3;have B3:=aA (B.out.trans (ButLo.of b3 (by have:=B.out.size;omega)));clear s3 b3;unfold aV;go_wp2_with fail;exact⟨rfl,rfl,S3.out,B3.out⟩;have HK:=aA hK;clear hK;go_simp;have AZ:=(Below.refl _ w0).alloc (Nat.le_refl _) (.cells #[.int .i64 0,.int .i64 0,.int .i64 0,.string ⟨#[]⟩,.slice none 0 0,.slice none 0 0,.int .i64 0] 26);have Y:=aA (aI w0 26 #[.int .i64 0,.int .i64 0,.int .i64 0,.string ⟨#[]⟩,.slice none 0 0,.slice none 0 0,.int .i64 0]);replace S:=aA (S.out.on AZ);replace G:=aA (aC G.out AZ);replace Q:=aA (aC Q.out AZ);replace R:=aA (bD R.out AZ);replace B:=aA (B.out.trans (ButLo.of (But.of (P:=P) AZ) (by have:=B.out.size;omega)));obtain⟨zb,hzb⟩:∃ zb,w0.heap.size=zb:=⟨_,rfl⟩
 rw [hzb] at Y ⊢;obtain⟨w2,hw⟩:∃ x,w0.alloc (.cells #[.int .i64 0,.int .i64 0,.int .i64 0,.string ⟨#[]⟩,.slice none 0 0,.slice none 0 0,.int .i64 0] 26)=x:=⟨_,rfl⟩
 rw [hw] at Y S G Q R B ⊢;have hz2:w2.heap.size=w0.heap.size+1:=by rw [← hw];simp
 refine HK.out.out _ _ ?_ (fun hHeld=>?_)
 ·exact (aB Q.out 0).trans rfl
 clear HK K AZ hw;refine wpAnyH_ready (rs:=[0,2]) (by kernel_rfl) (by simp) ?_;refine AllReadyH.cons rfl (fun K hK=>?_) (AllReadyH.cons rfl (fun K hK=>?_) AllReadyH.nil);have HK:=aA hK;clear hK;have k0:=aB G.out 0;simp at k0;go_simp;refine HK.out.out _ _ ?_ (fun hHeld=>?_)
 ·exact (aB Q.out 0).trans rfl
 clear HK K k0;refine wpAnyH_take (i:=3) (v:=?vk3) rfl (by kernel_rfl) (by kernel_rfl) (by kernel_rfl) (fun _ _ _ h=>h) (Or.inl ⟨by rfl,?hyk3⟩) (by assumption) ?_
 case hyk3=>(intro w hSw;go_simp<;>(try with_reducible rfl))
 simp only [Act.put,List.setIfInBounds_toArray,List.set_cons_zero,List.set_cons_succ,List.getElem_toArray,List.getElem_cons_succ,List.getElem_cons_zero];refine iV 2 (fun K hK=>?_);clear hK;go_simp;refine (HC.out _ S).mono ?_;rintro e3 wc' ⟨rfl,s3,b3⟩;have S3:=aA s3;have B3:=aA (B.out.trans (ButLo.of b3 (by have:=B.out.size;omega)));clear s3 b3;unfold aV;go_wp2_with fail;exact⟨rfl,rfl,S3.out,B3.out⟩;clear hK;go_simp;refine (HC.out _ S).mono ?_;rintro e3 wc' ⟨rfl,s3,b3⟩;have S3:=aA s3;have B3:=aA (B.out.trans (ButLo.of b3 (by have:=B.out.size;omega)));clear s3 b3;unfold aV;go_wp2_with fail;exact⟨rfl,rfl,S3.out,B3.out⟩
set_option linter.unusedSimpArgs false in
set_option linter.unusedVariables false in
theorem Ms (P kb pb lo:Nat) (L l:List Tok) (ok:Nat→Prop) (C:C1 P kb pb lo ok) (v:Value) (ks:List Nd) (w:World) (hkl:ks.length≤40) (hlw:lo≤w.heap.size)
  (H:Hid (PSt P L w l)) (HK:Hid (dP kb 24 #[v] w)) (HQ:Hid (dP pb 43 #[.pointer (some ⟨P,0,none⟩)] w)) (HRw:Hid (jC lo ok w v ks)) (x:Nd) (b:Bool) (l':List Tok)
  (HC:Hid (∀ w',Hid (PSt P L w' l)→Calls Tryz.prog 24 #[.pointer (some ⟨P,0,none⟩)] w' (bR P L w' (.ok x b l')))) :
  Calls Tryz.prog 188 #[.pointer (some ⟨kb,0,none⟩),.pointer (some ⟨pb,0,none⟩)] w (FX P kb pb lo L ok ks w (.ok x b l')):=by
 obtain⟨ao,cap,rfl⟩:=iR HRw.out;have DR:=(Below.refl w.heap.size w).drew;have S:=aA (H.out.on DR);have G:=aA (aC HK.out DR);have Q:=aA (aC HQ.out DR);have R:=aA (bD HRw.out DR);have B:=aA (ButLo.of (lo:=lo) (But.of (P:=P) DR) hlw);have hkP:P<kb:=by have:=C.k;have:=C.p;omega
 have hqP:P<pb:=by have:=C.q;have:=C.p;omega
 have hP:P<lo:=C.p;clear H HK HQ HRw DR;go_enter Tryz.func188,Tryz.ntmps188;go_wp2_with fail;refine wp_region_held_drew (S:=(fun a=>a.cell? ⟨pb,0,none⟩=some (.pointer (some ⟨P,0,none⟩)))) (by kernel_rfl) ?_ (fun hHeld=>?_)
 ·exact (aB Q.out 0).trans rfl
 obtain⟨w0,hw0⟩:∃ x,w.drew=x:=⟨_,rfl⟩
 rw [hw0] at hHeld S G Q R B ⊢;have hz0:w.heap.size=w0.heap.size:=by rw [← hw0];rfl
 clear hw0;refine wpAnyH_take (i:=1) (v:=?vk4) rfl (by kernel_rfl) (by kernel_rfl) (by kernel_rfl) (fun _ _ _ h=>h) (Or.inl ⟨by rfl,?hyk4⟩) (by assumption) ?_
 case hyk4=>(intro w hSw;go_simp<;>(try with_reducible rfl))
 simp only [Act.put,List.setIfInBounds_toArray,List.set_cons_zero,List.set_cons_succ,List.getElem_toArray,List.getElem_cons_succ,List.getElem_cons_zero];refine wpAnyH_ready (rs:=[0,2,4]) (by kernel_rfl) (by simp) ?_;refine AllReadyH.cons rfl (fun K hK=>?_) (AllReadyH.cons rfl (fun K hK=>?_) (AllReadyH.cons rfl (fun K hK=>?_) AllReadyH.nil));have HK:=aA hK;clear hK;have k0:=aB G.out 0;simp at k0;go_simp;refine HK.out.out _ _ ?_ (fun hHeld=>?_)
 ·exact (aB Q.out 0).trans rfl
 clear HK K k0;refine wpAnyH_take (i:=3) (v:=?vk5) rfl (by kernel_rfl) (by kernel_rfl) (by kernel_rfl) (fun _ _ _ h=>h) (Or.inl ⟨by rfl,?hyk5⟩) (by assumption) ?_
 case hyk5=>(intro w hSw;go_simp<;>(try with_reducible rfl))
 simp only [Act.put,List.setIfInBounds_toArray,List.set_cons_zero,List.set_cons_succ,List.getElem_toArray,List.getElem_cons_succ,List.getElem_cons_zero];refine wpAnyH_ready (rs:=[2,4]) (by kernel_rfl) (by simp) ?_;refine AllReadyH.cons rfl (fun K hK=>?_) (AllReadyH.cons rfl (fun K hK=>?_) AllReadyH.nil);have HK:=aA hK;clear hK;go_simp;refine (HC.out _ S).mono ?_;rintro e3 w1 ⟨⟨nv3,kv3,rfl,n3⟩,s3,b3⟩;obtain⟨f1,g1,f2,g2,rfl,rfl⟩:=aP n3;have N:=aA (nC (ok:=ok) (v:=(.slice ao ks.length cap)) n3 (fun b hb=>C.up b (by have:=aF G.out;omega) (by have:=aF Q.out;omega)) (fun g hg=>(bA R.out g hg).2.2));replace S:=aA s3;replace G:=aA (aD G.out b3 (by omega));replace Q:=aA (aD Q.out b3 (by omega));replace R:=aA (dR R.out b3 C.np);replace B:=aA (B.out.trans (ButLo.of b3 (by have:=B.out.size;omega)));have hz1:w0.heap.size≤w1.heap.size:=b3.size;clear s3 b3 n3;unfold fR;simp only;refine HK.out.out _ _ ?_ (fun hHeld=>?_)
 ·exact (aB Q.out 0).trans rfl
 clear HK K;refine iV 4 (fun K hK=>?_);have HK:=aA hK;clear hK;go_simp;have AZ:=(Below.refl _ w1).alloc (Nat.le_refl _) (.cells #[.int .i64 0,.int .i64 0,.int .i64 0,.string ⟨#[]⟩,.slice none 0 0,.slice none 0 0,.int .i64 0] 26);have Y:=aA (aI w1 26 #[.int .i64 0,.int .i64 0,.int .i64 0,.string ⟨#[]⟩,.slice none 0 0,.slice none 0 0,.int .i64 0]);replace S:=aA (S.out.on AZ);replace G:=aA (aC G.out AZ);replace Q:=aA (aC Q.out AZ);replace R:=aA (bD R.out AZ);replace N:=aA (tD N.out AZ);replace B:=aA (B.out.trans (ButLo.of (But.of (P:=P) AZ) (by have:=B.out.size;omega)));obtain⟨zb,hzb⟩:∃ zb,w1.heap.size=zb:=⟨_,rfl⟩
 rw [hzb] at Y ⊢;obtain⟨w2,hw⟩:∃ x,w1.alloc (.cells #[.int .i64 0,.int .i64 0,.int .i64 0,.string ⟨#[]⟩,.slice none 0 0,.slice none 0 0,.int .i64 0] 26)=x:=⟨_,rfl⟩
 rw [hw] at Y S G Q R B N ⊢;have hz2:w2.heap.size=w1.heap.size+1:=by rw [← hw];simp
 refine HK.out.out _ _ ?_ (fun hHeld=>?_)
 ·exact (aB Q.out 0).trans rfl
 clear HK K AZ hw;rotate_left 1;have HK:=aA hK;clear hK;go_simp;have AZ:=(Below.refl _ w0).alloc (Nat.le_refl _) (.cells #[.int .i64 0,.int .i64 0,.int .i64 0,.string ⟨#[]⟩,.slice none 0 0,.slice none 0 0,.int .i64 0] 26);have Y:=aA (aI w0 26 #[.int .i64 0,.int .i64 0,.int .i64 0,.string ⟨#[]⟩,.slice none 0 0,.slice none 0 0,.int .i64 0]);replace S:=aA (S.out.on AZ);replace G:=aA (aC G.out AZ);replace Q:=aA (aC Q.out AZ);replace R:=aA (bD R.out AZ);replace B:=aA (B.out.trans (ButLo.of (But.of (P:=P) AZ) (by have:=B.out.size;omega)));obtain⟨zb,hzb⟩:∃ zb,w0.heap.size=zb:=⟨_,rfl⟩
 rw [hzb] at Y ⊢;obtain⟨w3,hw⟩:∃ x,w0.alloc (.cells #[.int .i64 0,.int .i64 0,.int .i64 0,.string ⟨#[]⟩,.slice none 0 0,.slice none 0 0,.int .i64 0] 26)=x:=⟨_,rfl⟩
 rw [hw] at Y S G Q R B ⊢;have hz3:w3.heap.size=w0.heap.size+1:=by rw [← hw];simp
 refine HK.out.out _ _ ?_ (fun hHeld=>?_)
 ·exact (aB Q.out 0).trans rfl
 clear HK K AZ hw;refine iV 2 (fun K hK=>?_);have HK:=aA hK;clear hK;go_simp;refine (HC.out _ S).mono ?_;rintro e3 w4 ⟨⟨nv3,kv3,rfl,n3⟩,s3,b3⟩;obtain⟨f1,g1,f2,g2,rfl,rfl⟩:=aP n3;have N:=aA (nC (ok:=ok) (v:=(.slice ao ks.length cap)) n3 (fun b hb=>C.up b (by have:=aF G.out;omega) (by have:=aF Q.out;omega)) (fun g hg=>(bA R.out g hg).2.2));replace S:=aA s3;replace G:=aA (aD G.out b3 (by omega));replace Q:=aA (aD Q.out b3 (by omega));replace R:=aA (dR R.out b3 C.np);replace Y:=aA (aD Y.out b3 (by have:=B.out.size;omega));replace B:=aA (B.out.trans (ButLo.of b3 (by have:=B.out.size;omega)));have hz4:w3.heap.size≤w4.heap.size:=b3.size;clear s3 b3 n3;unfold fR;simp only;refine HK.out.out _ _ ?_ (fun hHeld=>?_)
 ·exact (aB Q.out 0).trans rfl
 clear HK K;rotate_left 1;have HK:=aA hK;clear hK;go_simp;refine (HC.out _ S).mono ?_;rintro e3 w5 ⟨⟨nv3,kv3,rfl,n3⟩,s3,b3⟩;obtain⟨f1,g1,f2,g2,rfl,rfl⟩:=aP n3;have N:=aA (nC (ok:=ok) (v:=(.slice ao ks.length cap)) n3 (fun b hb=>C.up b (by have:=aF G.out;omega) (by have:=aF Q.out;omega)) (fun g hg=>(bA R.out g hg).2.2));replace S:=aA s3;replace G:=aA (aD G.out b3 (by omega));replace Q:=aA (aD Q.out b3 (by omega));replace R:=aA (dR R.out b3 C.np);replace B:=aA (B.out.trans (ButLo.of b3 (by have:=B.out.size;omega)));have hz5:w0.heap.size≤w5.heap.size:=b3.size;clear s3 b3 n3;unfold fR;simp only;refine HK.out.out _ _ ?_ (fun hHeld=>?_)
 ·exact (aB Q.out 0).trans rfl
 clear HK K;refine wpAnyH_ready (rs:=[0,4]) (by kernel_rfl) (by simp) ?_;refine AllReadyH.cons rfl (fun K hK=>?_) (AllReadyH.cons rfl (fun K hK=>?_) AllReadyH.nil);have HK:=aA hK;clear hK;have k0:=aB G.out 0;simp at k0;go_simp;refine HK.out.out _ _ ?_ (fun hHeld=>?_)
 ·exact (aB Q.out 0).trans rfl
 clear HK K k0;refine wpAnyH_take (i:=3) (v:=?vk6) rfl (by kernel_rfl) (by kernel_rfl) (by kernel_rfl) (fun _ _ _ h=>h) (Or.inl ⟨by rfl,?hyk6⟩) (by assumption) ?_
 case hyk6=>(intro w hSw;go_simp<;>(try with_reducible rfl))
 simp only [Act.put,List.setIfInBounds_toArray,List.set_cons_zero,List.set_cons_succ,List.getElem_toArray,List.getElem_cons_succ,List.getElem_cons_zero];refine iV 4 (fun K hK=>?_);have HK:=aA hK;clear hK;go_simp;have AZ:=(Below.refl _ w5).alloc (Nat.le_refl _) (.cells #[.int .i64 0,.int .i64 0,.int .i64 0,.string ⟨#[]⟩,.slice none 0 0,.slice none 0 0,.int .i64 0] 26);have Y:=aA (aI w5 26 #[.int .i64 0,.int .i64 0,.int .i64 0,.string ⟨#[]⟩,.slice none 0 0,.slice none 0 0,.int .i64 0]);replace S:=aA (S.out.on AZ);replace G:=aA (aC G.out AZ);replace Q:=aA (aC Q.out AZ);replace R:=aA (bD R.out AZ);replace N:=aA (tD N.out AZ);replace B:=aA (B.out.trans (ButLo.of (But.of (P:=P) AZ) (by have:=B.out.size;omega)));obtain⟨zb,hzb⟩:∃ zb,w5.heap.size=zb:=⟨_,rfl⟩
 rw [hzb] at Y ⊢;obtain⟨w6,hw⟩:∃ x,w5.alloc (.cells #[.int .i64 0,.int .i64 0,.int .i64 0,.string ⟨#[]⟩,.slice none 0 0,.slice none 0 0,.int .i64 0] 26)=x:=⟨_,rfl⟩
 rw [hw] at Y S G Q R B N ⊢;have hz6:w6.heap.size=w5.heap.size+1:=by rw [← hw];simp
 refine HK.out.out _ _ ?_ (fun hHeld=>?_)
 ·exact (aB Q.out 0).trans rfl
 clear HK K AZ hw;rotate_left 1;have HK:=aA hK;clear hK;go_simp;have AZ:=(Below.refl _ w5).alloc (Nat.le_refl _) (.cells #[.int .i64 0,.int .i64 0,.int .i64 0,.string ⟨#[]⟩,.slice none 0 0,.slice none 0 0,.int .i64 0] 26);have Y:=aA (aI w5 26 #[.int .i64 0,.int .i64 0,.int .i64 0,.string ⟨#[]⟩,.slice none 0 0,.slice none 0 0,.int .i64 0]);replace S:=aA (S.out.on AZ);replace G:=aA (aC G.out AZ);replace Q:=aA (aC Q.out AZ);replace R:=aA (bD R.out AZ);replace N:=aA (tD N.out AZ);replace B:=aA (B.out.trans (ButLo.of (But.of (P:=P) AZ) (by have:=B.out.size;omega)));obtain⟨zb,hzb⟩:∃ zb,w5.heap.size=zb:=⟨_,rfl⟩
 rw [hzb] at Y ⊢;obtain⟨w7,hw⟩:∃ x,w5.alloc (.cells #[.int .i64 0,.int .i64 0,.int .i64 0,.string ⟨#[]⟩,.slice none 0 0,.slice none 0 0,.int .i64 0] 26)=x:=⟨_,rfl⟩
 rw [hw] at Y S G Q R B N ⊢;have hz7:w7.heap.size=w5.heap.size+1:=by rw [← hw];simp
 refine HK.out.out _ _ ?_ (fun hHeld=>?_)
 ·exact (aB Q.out 0).trans rfl
 clear HK K AZ hw;refine iV 0 (fun K hK=>?_);have HK:=aA hK;clear hK;have k0:=aB G.out 0;simp at k0;go_simp;refine HK.out.out _ _ ?_ (fun hHeld=>?_)
 ·exact (aB Q.out 0).trans rfl
 clear HK K k0;refine wpAnyH_take (i:=3) (v:=?vk7) rfl (by kernel_rfl) (by kernel_rfl) (by kernel_rfl) (fun _ _ _ h=>h) (Or.inl ⟨by rfl,?hyk7⟩) (by assumption) ?_
 case hyk7=>(intro w hSw;go_simp<;>(try with_reducible rfl))
 simp only [Act.put,List.setIfInBounds_toArray,List.set_cons_zero,List.set_cons_succ,List.getElem_toArray,List.getElem_cons_succ,List.getElem_cons_zero];rotate_left 1;have HK:=aA hK;clear hK;go_simp;have AZ:=(Below.refl _ w0).alloc (Nat.le_refl _) (.cells #[.int .i64 0,.int .i64 0,.int .i64 0,.string ⟨#[]⟩,.slice none 0 0,.slice none 0 0,.int .i64 0] 26);have Y:=aA (aI w0 26 #[.int .i64 0,.int .i64 0,.int .i64 0,.string ⟨#[]⟩,.slice none 0 0,.slice none 0 0,.int .i64 0]);replace S:=aA (S.out.on AZ);replace G:=aA (aC G.out AZ);replace Q:=aA (aC Q.out AZ);replace R:=aA (bD R.out AZ);replace B:=aA (B.out.trans (ButLo.of (But.of (P:=P) AZ) (by have:=B.out.size;omega)));obtain⟨zb,hzb⟩:∃ zb,w0.heap.size=zb:=⟨_,rfl⟩
 rw [hzb] at Y ⊢;obtain⟨w8,hw⟩:∃ x,w0.alloc (.cells #[.int .i64 0,.int .i64 0,.int .i64 0,.string ⟨#[]⟩,.slice none 0 0,.slice none 0 0,.int .i64 0] 26)=x:=⟨_,rfl⟩
 rw [hw] at Y S G Q R B ⊢;have hz8:w8.heap.size=w0.heap.size+1:=by rw [← hw];simp
 refine HK.out.out _ _ ?_ (fun hHeld=>?_)
 ·exact (aB Q.out 0).trans rfl
 clear HK K AZ hw;refine wpAnyH_ready (rs:=[0,2]) (by kernel_rfl) (by simp) ?_;refine AllReadyH.cons rfl (fun K hK=>?_) (AllReadyH.cons rfl (fun K hK=>?_) AllReadyH.nil);have HK:=aA hK;clear hK;have k0:=aB G.out 0;simp at k0;go_simp;refine HK.out.out _ _ ?_ (fun hHeld=>?_)
 ·exact (aB Q.out 0).trans rfl
 clear HK K k0;refine wpAnyH_take (i:=3) (v:=?vk8) rfl (by kernel_rfl) (by kernel_rfl) (by kernel_rfl) (fun _ _ _ h=>h) (Or.inl ⟨by rfl,?hyk8⟩) (by assumption) ?_
 case hyk8=>(intro w hSw;go_simp<;>(try with_reducible rfl))
 simp only [Act.put,List.setIfInBounds_toArray,List.set_cons_zero,List.set_cons_succ,List.getElem_toArray,List.getElem_cons_succ,List.getElem_cons_zero];refine iV 2 (fun K hK=>?_);have HK:=aA hK;clear hK;go_simp;refine (HC.out _ S).mono ?_;rintro e3 w9 ⟨⟨nv3,kv3,rfl,n3⟩,s3,b3⟩;obtain⟨f1,g1,f2,g2,rfl,rfl⟩:=aP n3;have N:=aA (nC (ok:=ok) (v:=(.slice ao ks.length cap)) n3 (fun b hb=>C.up b (by have:=aF G.out;omega) (by have:=aF Q.out;omega)) (fun g hg=>(bA R.out g hg).2.2));replace S:=aA s3;replace G:=aA (aD G.out b3 (by omega));replace Q:=aA (aD Q.out b3 (by omega));replace R:=aA (dR R.out b3 C.np);replace Y:=aA (aD Y.out b3 (by have:=B.out.size;omega));replace B:=aA (B.out.trans (ButLo.of b3 (by have:=B.out.size;omega)));have hz9:w8.heap.size≤w9.heap.size:=b3.size;clear s3 b3 n3;unfold fR;simp only;refine HK.out.out _ _ ?_ (fun hHeld=>?_)
 ·exact (aB Q.out 0).trans rfl
 clear HK K;rotate_left 1;have HK:=aA hK;clear hK;go_simp;refine (HC.out _ S).mono ?_;rintro e3 w10 ⟨⟨nv3,kv3,rfl,n3⟩,s3,b3⟩;obtain⟨f1,g1,f2,g2,rfl,rfl⟩:=aP n3;have N:=aA (nC (ok:=ok) (v:=(.slice ao ks.length cap)) n3 (fun b hb=>C.up b (by have:=aF G.out;omega) (by have:=aF Q.out;omega)) (fun g hg=>(bA R.out g hg).2.2));replace S:=aA s3;replace G:=aA (aD G.out b3 (by omega));replace Q:=aA (aD Q.out b3 (by omega));replace R:=aA (dR R.out b3 C.np);replace Y:=aA (aD Y.out b3 (by have:=B.out.size;omega));replace B:=aA (B.out.trans (ButLo.of b3 (by have:=B.out.size;omega)));have hz10:w8.heap.size≤w10.heap.size:=b3.size;clear s3 b3 n3;unfold fR;simp only;refine HK.out.out _ _ ?_ (fun hHeld=>?_)
 ·exact (aB Q.out 0).trans rfl
 clear HK K;refine iV 0 (fun K hK=>?_);have HK:=aA hK;clear hK;have k0:=aB G.out 0;simp at k0;go_simp;refine HK.out.out _ _ ?_ (fun hHeld=>?_)
 ·exact (aB Q.out 0).trans rfl
 clear HK K k0;refine wpAnyH_take (i:=3) (v:=?vk9) rfl (by kernel_rfl) (by kernel_rfl) (by kernel_rfl) (fun _ _ _ h=>h) (Or.inl ⟨by rfl,?hyk9⟩) (by assumption) ?_
 case hyk9=>(intro w hSw;go_simp<;>(try with_reducible rfl))
 simp only [Act.put,List.setIfInBounds_toArray,List.set_cons_zero,List.set_cons_succ,List.getElem_toArray,List.getElem_cons_succ,List.getElem_cons_zero];rotate_left 1;all_goals
  refine iV 5 (fun K hK=>?_);have HK:=aA hK;clear hK;obtain⟨cs,hown,hr,hg⟩:=R.out;obtain⟨i0,hi,hz0,hz1,hz2⟩:=vC;have hsz:=B.out.size;refine step_append_lies _ rfl _ _ 24 rfl lo 26 i0 _ 7 96 qL hi hz0 hz1 hz2 rfl (by decide) (.slice ao ks.length cap) _ cs (by rfl) hown ⟨zb,0,none⟩ 1 1 zl (by rfl) rfl (oN Y.out) uC (by decide) (by unfold maxLen;omega) (by omega) (by omega) _ rfl ?_;intro g cap2 wb hown' hgrow hat hlt;have AP:=aA (qO hown' hgrow hat R.out (by omega) (aF G.out) (aF Q.out) C.nk C.nq);have S9:=aA (eP S.out (gG hgrow (by omega) (fun k hk=>by have:=(bA R.out k hk).2.1;omega)));have G9:=aA (cX G.out hgrow (fun e=>C.nk ((bA R.out _ e.symm).1)));have Q9:=aA (cX Q.out hgrow (fun e=>C.nq ((bA R.out _ e.symm).1)));have B9:=aA (B.out.trans (ButLo.grown hgrow (by omega) (fun k hk=>(bA R.out k hk).2.1)));have PU:=aA (oO (x:=x) (nv:=.slice f1 x.names.length g1) (kv:=.slice f2 x.kids.length g2) hown' hgrow hat hr hg N.out (fun k hk=>C.up k (by have:=aF G.out;omega) (by have:=aF Q.out;omega)) (by omega));obtain⟨cur,hcur,hcs⟩:=AP.out.blk;obtain⟨⟨_,e0⟩,⟨_,e1⟩,⟨_,e2⟩,⟨_,e3⟩,⟨_,e4⟩,⟨_,e5⟩,⟨_,e6⟩⟩:=lY hcur hcs;obtain⟨u0,u1,u2,u3,u4,u5,u6⟩:=lZ hcur ks.length;have hgl:lo≤g:=AP.out.lo;have hgk:g≠kb:=AP.out.nk;have hgp:g≠pb:=AP.out.nq;have hqk:pb≠kb:=Ne.symm C.ne;have hidx:(ks.length:Int)<(ks.length:Int)+1:=by omega
  clear hown hr hg hi hz0 hz1 hz2 i0 hown' hgrow hat hlt Y R N S G Q B;refine HK.out.out _ _ ?_ (fun hHeld=>?_)
  ·exact (aB Q9.out 0).trans rfl
  clear HK K;refine QI 6 ?_;refine wpAnyH_ready (rs:=[7,8]) (by kernel_rfl) (by simp) ?_;refine AllReadyH.cons rfl (fun K hK=>?_) (AllReadyH.cons rfl (fun K hK=>?_) AllReadyH.nil)
  ·have HK:=aA hK;clear hK;go_simp;refine HK.out.out _ _ ?_ (fun hHeld=>?_)
   ·exact (cE (g:=g) (i:=ks.length*7) (aB Q9.out 0) (Ne.symm hgp) (.int .i64 x.kind) (.int .i64 x.op) (.int .i64 x.num) (.string x.str) (.slice f1 x.names.length g1) (.slice f2 x.kids.length g2) (.int .i64 x.pl)).trans rfl
   clear HK K;refine iV 8 (fun K hK=>?_);have HK:=aA hK;clear hK;have k0:=cE (g:=g) (i:=ks.length*7) (aB G9.out 0) (Ne.symm hgk) (.int .i64 x.kind) (.int .i64 x.op) (.int .i64 x.num) (.string x.str) (.slice f1 x.names.length g1) (.slice f2 x.kids.length g2) (.int .i64 x.pl);have z0:=lJ (g:=g) (i:=ks.length*7) (bG G9.out 0) (Ne.symm hgk) (.int .i64 x.kind) (.int .i64 x.op) (.int .i64 x.num) (.string x.str) (.slice f1 x.names.length g1) (.slice f2 x.kids.length g2) (.int .i64 x.pl);unfold put7n at k0 z0;simp at k0;go_simp;refine HK.out.out _ _ ?_ (fun hHeld=>?_)
   ·exact ((World.cell?_of_block (w:=put7n wb g (ks.length*7) (.int .i64 x.kind) (.int .i64 x.op) (.int .i64 x.num) (.string x.str) (.slice f1 x.names.length g1) (.slice f2 x.kids.length g2) (.int .i64 x.pl)) (Below.heap_setCell _ _ _ _ hqk)).trans (cE (g:=g) (i:=ks.length*7) (aB Q9.out 0) (Ne.symm hgp) (.int .i64 x.kind) (.int .i64 x.op) (.int .i64 x.num) (.string x.str) (.slice f1 x.names.length g1) (.slice f2 x.kids.length g2) (.int .i64 x.pl))).trans rfl
   clear HK K;refine wpAnyH_done (by kernel_rfl) ?_ _;have WR:=qQ (n:=ks.length) (j:=0) (V:=.slice (some ⟨g,0,none⟩) (ks.length+1) cap2) hcur G9.out hgk (.int .i64 x.kind) (.int .i64 x.op) (.int .i64 x.num) (.string x.str) (.slice f1 x.names.length g1) (.slice f2 x.kids.length g2) (.int .i64 x.pl);unfold put7n at WR;go_end0
   exact⟨rfl,⟨_,WR.hk,PU.out _ cur hcur WR.hg (by rw [WR.size];omega) (fun k hk hk2 hk3=>WR.rest k hk3 (fun e=>C.nk (e▸hk)))⟩,(WR.rest pb (Ne.symm hgp) (Ne.symm C.ne)).trans Q9.out,eP S9.out (WR.below (by omega) (by omega)),B9.out.trans (WR.butlo hgl C.k)⟩
  ·have HK:=aA hK;clear hK;have k0:=aB G9.out 0;have z0:=bG G9.out 0;simp at k0;go_simp;refine HK.out.out _ _ ?_ (fun hHeld=>?_)
   ·exact ((World.cell?_of_block (w:=wb) (Below.heap_setCell _ _ _ _ hqk)).trans (aB Q9.out 0)).trans rfl
   clear HK K;refine iV 7 (fun K hK=>?_);have HK:=aA hK;clear hK;have hcur2:=(show dP g 26 cur (wb.setCell ⟨kb,0,none⟩ (.slice (some ⟨g,0,none⟩) (ks.length+1) cap2)) from (Below.heap_setCell _ _ _ _ hgk).trans hcur)
   obtain⟨⟨_,e0⟩,⟨_,e1⟩,⟨_,e2⟩,⟨_,e3⟩,⟨_,e4⟩,⟨_,e5⟩,⟨_,e6⟩⟩:=lY hcur2 hcs;obtain⟨u0,u1,u2,u3,u4,u5,u6⟩:=lZ hcur2 ks.length;go_simp;refine HK.out.out _ _ ?_ (fun hHeld=>?_)
   ·exact (cE (g:=g) (i:=ks.length*7) ((World.cell?_of_block (w:=wb) (Below.heap_setCell _ _ _ _ hqk)).trans (aB Q9.out 0)) (Ne.symm hgp) (.int .i64 x.kind) (.int .i64 x.op) (.int .i64 x.num) (.string x.str) (.slice f1 x.names.length g1) (.slice f2 x.kids.length g2) (.int .i64 x.pl)).trans rfl
   clear HK K;refine wpAnyH_done (by kernel_rfl) ?_ _;have WR:=qR (n:=ks.length) (j:=0) (V:=.slice (some ⟨g,0,none⟩) (ks.length+1) cap2) hcur G9.out hgk (.int .i64 x.kind) (.int .i64 x.op) (.int .i64 x.num) (.string x.str) (.slice f1 x.names.length g1) (.slice f2 x.kids.length g2) (.int .i64 x.pl);unfold put7n at WR;go_end0
   exact⟨rfl,⟨_,WR.hk,PU.out _ cur hcur WR.hg (by rw [WR.size];omega) (fun k hk hk2 hk3=>WR.rest k hk3 (fun e=>C.nk (e▸hk)))⟩,(WR.rest pb (Ne.symm hgp) (Ne.symm C.ne)).trans Q9.out,eP S9.out (WR.below (by omega) (by omega)),B9.out.trans (WR.butlo hgl C.k)⟩
theorem Ea (f:Nat) (hR:gS f) (P kb pb lo:Nat) (L:List Tok) (ok:Nat→Prop) (C:C1 P kb pb lo ok):CA f P kb pb lo L ok:=by
 intro l v ks w hf hk hlw H HK HQ HRw;have HC:∀ w',Hid (PSt P L w' l)→Calls Tryz.prog 24 #[.pointer (some ⟨P,0,none⟩)] w' (bR P L w' (aS f 1 l)):=fun w' S=>hR 1 P L l w' (by omega) (by omega) (by omega) S
 cases hq:aS f 1 l with
 | bad l'=>
  rw [hq] at HC;exact Ki P kb pb lo L l ok C v ks w hk hlw H HK HQ HRw l' (aA HC)
 | ok x b l'=>
  rw [hq] at HC;exact Ms P kb pb lo L l ok C v ks w hk hlw H HK HQ HRw x b l' (aA HC)
def oY (lo:Nat) (ok:Nat→Prop) (w:World) (v:Value) (ns:List ByteArray):Prop:=
 w.ownsRow lo 9 1 v ns.length (ns.map Value.string)∧∀ g,v.ownBlock=some g→ok g
theorem Mt (lo:Nat) (ok:Nat→Prop) (w:World):oY lo ok w (.slice none 0 0) []:=⟨World.ownsRow_nil w _ _ _,fun g h=>by simp [Value.ownBlock] at h⟩
theorem Mu (lo:Nat) (ok:Nat→Prop) (w:World):jC lo ok w (.slice none 0 0) []:=⟨[],World.ownsRow_nil w _ _ _,rfl,fun g h=>by simp [Value.ownBlock] at h⟩
theorem aW {lo:Nat} {ok:Nat→Prop} {w:World} {v:Value} {ns:List ByteArray} (h:oY lo ok w v ns):∀ g,v.ownBlock=some g→ok g∧lo≤g∧g<w.heap.size:=
 fun g hv=>⟨h.2 g hv,(h.1.lt g hv).1,(h.1.lt g hv).2⟩
theorem lK {lo:Nat} {ok:Nat→Prop} {w:World} {v:Value} {ns:List ByteArray} (h:oY lo ok w v ns):∃ ao cap,v=.slice ao ns.length cap:=by
 rcases h.1.2 with ⟨h1,h2⟩ | ⟨g,cap,cur,h1,_⟩
 ·exact⟨none,0,by rw [h1,h2]⟩
 ·exact⟨_,cap,h1⟩
theorem BI {lo:Nat} {ok:Nat→Prop} {w:World} {v:Value} {ns:List ByteArray} (h:oY lo ok w v ns):xG (FM ok w) v ns w:=by
 rcases h.1.2 with ⟨h1,h2⟩ | ⟨g,cap,cur,h1,h2,h3,h4,h5,h6,h7⟩
 ·have:ns=[]:=List.length_eq_zero_iff.1 h2;subst this;exact .inl ⟨none,0,h1,rfl⟩
 ·refine .inr ⟨g,0,cap,h1,⟨h.2 g (by rw [h1];rfl),aF (show dP g 9 cur w from h3)⟩,fun i hi=>?_,h4⟩;rw [Nat.zero_add,aB (show dP g 9 cur w from h3)];have e:=congrArg (fun l=>l[i]?) h7;simp only [List.getElem?_take,Array.getElem?_toList,List.getElem?_map] at e;rw [if_pos (by omega)] at e;rw [e];simp [hi]
theorem eE {lo:Nat} {ok:Nat→Prop} {a c:World} {v:Value} {ns:List ByteArray} (h:oY lo ok a v ns) (hk:∀ b,v.ownBlock=some b→c.heap[b]? = a.heap[b]?):oY lo ok c v ns:=by
 refine⟨⟨h.1.1,?_⟩,h.2⟩;rcases h.1.2 with h1 | ⟨g,cap,cur,h1,h2,h3,h4⟩
 ·exact .inl h1
 ·refine .inr ⟨g,cap,cur,h1,h2,?_,h4⟩;rw [hk g (by rw [h1];rfl)];exact h3
theorem jE {lo P:Nat} {ok:Nat→Prop} {a c:World} {v:Value} {ns:List ByteArray} (h:oY lo ok a v ns) (k:But P a c) (hp:¬ ok P):oY lo ok c v ns:=
 eE h (fun b hb=>k.block b (aW h b hb).2.2 (fun e=>hp (e▸(aW h b hb).1)))
theorem dX {lo:Nat} {ok:Nat→Prop} {a c:World} {v:Value} {ns:List ByteArray} (h:oY lo ok a v ns) (k:Below a.heap.size a c):oY lo ok c v ns:=
 eE h (fun b hb=>k.block b (aW h b hb).2.2)
theorem mU {lo:Nat} {ok:Nat→Prop} {a c:World} {v:Value} {ns:List ByteArray} {row:Option Nat} (h:oY lo ok a v ns) (k:a.grownBy c row) (hne:∀ b,v.ownBlock=some b→some b≠row):oY lo ok c v ns:=
 eE h (fun b hb=>k.block b (aW h b hb).2.2 (hne b hb))
theorem Kj {lo:Nat} {ok ok':Nat→Prop} {a c:World} {v:Value} {ks:List Nd} (h:jC lo ok a v ks) (hs:a.heap.size≤c.heap.size) (hk:∀ b,ok b→b<a.heap.size→ok' b∧c.heap[b]? = a.heap[b]?):jC lo ok' c v ks:=by
 obtain⟨cs,hown,hr,hg⟩:=h;refine⟨cs,⟨hown.1,?_⟩,mT (fun b hb=>⟨⟨(hk b hb.1 hb.2.1).1,Nat.lt_of_lt_of_le hb.2.1 hs,hb.2.2⟩,(hk b hb.1 hb.2.1).2⟩) hr,fun g hv=>(hk g (hg g hv) (hown.lt g hv).2).1⟩;rcases hown.2 with h1 | ⟨g,cap,cur,h1,h2,h3,h4⟩
 ·exact .inl h1
 ·refine .inr ⟨g,cap,cur,h1,h2,?_,h4⟩;rw [(hk g (hg g (by rw [h1];rfl)) (aF (show dP g 26 cur a from h3))).2];exact h3
theorem BJ:∃ i0,Tryz.prog.info? 9=some i0∧i0.zero=some (.string ⟨#[]⟩)∧i0.size=1∧i0.bytes=16:=
 info_parts (show (Tryz.prog.info? 9).map (fun i=>(i.zero,i.size,i.bytes))=some (some (.string ⟨#[]⟩),1,16) by kernel_rfl)
theorem wL:Tryz.prog.underlying 23=some (.slice 9):=by kernel_rfl
theorem pQ {w:World} {z:Nat} {x:ByteArray} (h:dP z 9 #[.string x] w):∀ (j:Nat) (u:Value),([.string x]:List Value)[j]? = some u→w.cell? ((⟨z,0,none⟩:Addr).add j)=some u:=by
 intro j u hj;have e:(⟨z,0,none⟩:Addr).add j=⟨z,j,none⟩:=by unfold Addr.add;split<;>simp_all
 rw [e,aB h];simpa using hj
theorem wM {x:ByteArray} : ∀ u∈([.string x]:List Value),u.oneCell'=true:=by
 intro u hu;simp only [List.mem_cons,List.not_mem_nil,or_false] at hu;subst hu;rfl
def Iv (ok:Nat→Prop) (nv:Value) (b:Nat):Prop:=ok b∧some b≠nv.ownBlock
theorem Kk {lo g cap nb pb:Nat} {ok:Nat→Prop} {a b:World} {v kv:Value} {ns:List ByteArray} {ks:List Nd} {x:ByteArray} (hown:b.ownsRow lo 9 1 (.slice (some ⟨g,0,none⟩) (ns.length+1) cap) (ns.length+1) (ns.map Value.string++[.string x])) (hgr:a.grownBy b v.ownBlock) (hat:v.ownBlock=some g∨g=a.heap.size)
  (hS:oY lo ok a v ns) (hR:jC lo (Iv ok v) a kv ks) (hup:ok a.heap.size) (hlo:lo≤a.heap.size) (h1:nb<a.heap.size) (h2:pb<a.heap.size) (nk:¬ ok nb) (nq:¬ ok pb) :
  oY lo ok b (.slice (some ⟨g,0,none⟩) (ns.length+1) cap) (ns++[x])∧jC lo (Iv ok (.slice (some ⟨g,0,none⟩) (ns.length+1) cap)) b kv ks∧lo≤g∧g≠nb∧g≠pb:=by
 refine⟨⟨by simpa using hown,fun k hk=>?_⟩,Kj hR hgr.size (fun k hk hlt=>⟨⟨hk.1,?_⟩,hgr.block k hlt hk.2⟩),?_,?_,?_⟩
 ·simp [Value.ownBlock] at hk;subst hk;rcases hat with h | h
  ·exact hS.2 _ h
  ·exact h▸hup
 ·intro e;simp [Value.ownBlock] at e;subst e;rcases hat with h | h
  ·exact hk.2 h.symm
  ·omega
 ·rcases hat with h | h
  ·exact (aW hS g h).2.1
  ·omega
 ·rcases hat with h | h
  ·exact fun e=>nk (e▸(aW hS g h).1)
  ·omega
 ·rcases hat with h | h
  ·exact fun e=>nq (e▸(aW hS g h).1)
  ·omega
end Go.Proofs.YtdnnmjhfidimcaaGreatDoor
