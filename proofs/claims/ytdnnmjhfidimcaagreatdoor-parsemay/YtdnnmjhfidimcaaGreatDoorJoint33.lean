/- What is made of a text, by either rule. Parse. The laws' own test. Right trees have short texts. -/
import Derived.Test.YtdnnmjhfidimcaaGreatDoorJoint32
import Derived.Deep.Cut
import Derived.KernelRfl
import Derived.Test.YtdnnmjhfidimcaaGreatDoorJoint2
import Derived.Test.YtdnnmjhfidimcaaGreatDoorJoint3
namespace Go.Proofs.YtdnnmjhfidimcaaGreatDoor
set_option maxRecDepth 100000
set_option maxHeartbeats 12800000
open Go.RowKit
def IG (w:World) (o:Nd×Int×Int) (e:Ending) (w':World):Prop:=∃ nv kv,e=.returned (.tuple #[fR o.1 nv kv,.int .i64 o.2.1,.int .i64 o.2.2])∧tP w.heap.size w' o.1 nv kv∧Below w.heap.size w w'
def wR:PR→Nd×Int×Int
 | .bad l=>(ndZ,(cur l).pl,12)
 | .ok t _ l=>if (cur l).kind=6 then (if 12<fF t then (ndZ,0,13) else (t,0,0)) else (ndZ,(cur l).pl,12)
theorem tH (t:Nd) (b:Bool) (l:List Tok):wR (.ok t b l)=if (cur l).kind=6 then (if 12<fF t then (ndZ,0,13) else (t,0,0)) else (ndZ,(cur l).pl,12):=rfl
theorem Ar {lo:Nat} {w:World} : tP lo w ndZ (.slice none 0 0) (.slice none 0 0):=eN ⟨gF,qI⟩
theorem KR (s:ByteArray) (hs:s.size≤1000000) (rr:Value) (w:World) (h0:0<w.heap.size) (SG:Hid (iZ 0 sgnL w)) (he:(tokOut s).2.2≠0) :
  Calls Tryz.prog 19 #[.string s,rr] w (IG w (ndZ,(tokOut s).2.1,(tokOut s).2.2)):=by
 have A1:=(Below.refl _ w).alloc (Nat.le_refl _) (.cells #[.int .i64 0,.int .i64 0,.int .i64 0,.string ⟨#[]⟩,.slice none 0 0,.slice none 0 0,.int .i64 0] 26);have A2:=(Below.refl _ (w.alloc (.cells #[.int .i64 0,.int .i64 0,.int .i64 0,.string ⟨#[]⟩,.slice none 0 0,.slice none 0 0,.int .i64 0] 26))).alloc (Nat.le_refl _) (.cells #[.int .i64 0] 3);have A3:=(Below.refl _ ((w.alloc (.cells #[.int .i64 0,.int .i64 0,.int .i64 0,.string ⟨#[]⟩,.slice none 0 0,.slice none 0 0,.int .i64 0] 26)).alloc (.cells #[.int .i64 0] 3))).alloc (Nat.le_refl _) (.cells #[.int .i64 0] 27);have N0:=aA (aC (aC (aI w 26 #[.int .i64 0,.int .i64 0,.int .i64 0,.string ⟨#[]⟩,.slice none 0 0,.slice none 0 0,.int .i64 0]) A2) A3);have T0:=aA (show dP (w.heap.size+1) 3 #[.int .i64 0] (((w.alloc (.cells #[.int .i64 0,.int .i64 0,.int .i64 0,.string ⟨#[]⟩,.slice none 0 0,.slice none 0 0,.int .i64 0] 26)).alloc (.cells #[.int .i64 0] 3)).alloc (.cells #[.int .i64 0] 27)) from by
  have:=aC (aI (w.alloc (.cells #[.int .i64 0,.int .i64 0,.int .i64 0,.string ⟨#[]⟩,.slice none 0 0,.slice none 0 0,.int .i64 0] 26)) 3 #[.int .i64 0]) A3;simpa using this)
 have E0:=aA (show dP (w.heap.size+1+1) 27 #[.int .i64 0] (((w.alloc (.cells #[.int .i64 0,.int .i64 0,.int .i64 0,.string ⟨#[]⟩,.slice none 0 0,.slice none 0 0,.int .i64 0] 26)).alloc (.cells #[.int .i64 0] 3)).alloc (.cells #[.int .i64 0] 27)) from by
  have:=aI ((w.alloc (.cells #[.int .i64 0,.int .i64 0,.int .i64 0,.string ⟨#[]⟩,.slice none 0 0,.slice none 0 0,.int .i64 0] 26)).alloc (.cells #[.int .i64 0] 3)) 27 #[.int .i64 0];simpa using this)
 have B0:=aA (bB (bB A1 A2) A3);have TC:=aA (vN s hs (((w.alloc (.cells #[.int .i64 0,.int .i64 0,.int .i64 0,.string ⟨#[]⟩,.slice none 0 0,.slice none 0 0,.int .i64 0] 26)).alloc (.cells #[.int .i64 0] 3)).alloc (.cells #[.int .i64 0] 27)) (by simp) (aA (dJ SG.out h0 B0.out)));clear A1 A2 A3;have HE:=aA he;clear he;have hmf:∀ (fn:Fn) (first cap:Array Value) (w:World),(Instr.makeFunc fn first cap).run Tryz.prog w=.ok (.func fn first cap) w:=fun _ _ _ _=>rfl
 generalize tokOut s=o at *
 obtain⟨tl,at_,er⟩:=o;go_enter_defers Tryz.func19,Tryz.ntmps19
 go_wp2_with fail;refine TC.out.mono ?_;rintro e w1 ⟨v,rfl,row,b1⟩;obtain⟨ao,cap,rfl⟩:=BS row;have N1:=aA (aC N0.out b1);have T1:=aA (aC T0.out b1);have E1:=aA (aC E0.out b1);have B1:=aA (bB B0.out b1);have R1:=aA row;clear row b1 N0 T0 E0 B0 TC;unfold tF;have t0:=aB T1.out 0;have t1:=bG T1.out 0;have e0:=aB E1.out 0;have e1:=bG E1.out 0;simp at t0 e0;have hn1:=aF N1.out;have ht1:=aF T1.out;have he1:=aF E1.out;obtain⟨r0,r1,r2,r3,r4,r5,r6⟩:=aN N1.out;obtain⟨u0,u1,u2,u3,u4,u5,u6⟩:=bP N1.out;have hen:=HE.out;clear HE;go_wp2_with fail;go_region;all_goals go_wp2_with fail
 have Z1:=yN N1.out T1.out E1.out (by omega) (by omega) (by omega) (.int .i64 (at_:Int)) (.int .i64 er);have Z2:=tG Z1.gn Z1.ga Z1.ge (by omega) (by omega) (by omega) (.int .i64 0) (.int .i64 0) (.int .i64 0) (.string ⟨#[]⟩) (.slice none 0 0) (.slice none 0 0) (.int .i64 0) (.int .i64 (at_:Int)) (.int .i64 er);have BL:=(B1.out.trans (Z1.below (by omega) (by omega) (by omega))).trans (Z2.below (by omega) (by omega) (by omega));unfold put7w at Z2 BL;exact⟨_,pX rfl rfl rfl rfl (aC Z2.gn (Below.refl _ _).drew) (aC Z2.ga (Below.refl _ _).drew) (aC Z2.ge (Below.refl _ _).drew),_,_,rfl,Ar,BL.drew⟩
theorem KT {P g:Nat} {L l:List Tok} {a c:World} {T:TypeId} {cs:Array Value} (h:PSt P L a l) (hb:dP g T cs a) (hc:∀ t,cs[1]?≠some (.string t)) (hgP:g≠P) (hg:g≠1) (hs:c.heap.size=a.heap.size) (hk:∀ k,k≠g→c.heap[k]? = a.heap[k]?):PSt P L c l:=by
 have hlt:=h.lt;obtain⟨R,cap,h1,h2,h3,h4⟩:=h.mem;have hL:0<L.length:=by
  have:=h.suf.length_le;have h5:0<l.length:=List.length_pos_iff.2 h.ne;omega
 have hR:R≠g:=by
  rintro rfl;have:=(h3 0 hL).2.1;rw [aB hb] at this;exact hc _ this
 refine⟨h.ok,h.suf,h.ne,⟨by rw [hs];exact h.sg.1,h.sg.2.1,fun i hi=>(World.cell?_of_block (w:=a) (hk _ (Ne.symm hg))).trans (h.sg.2.2 i hi)⟩,R,cap,h1,h2,?_,(hk P (Ne.symm hgP)).trans h4⟩;intro i hi;obtain⟨x1,x2,x3,x4⟩:=h3 i hi;have e:=hk R hR;exact⟨fQ e x1,fQ e x2,fQ e x3,fQ e x4⟩
theorem BV {L:List Tok} {w:World} {R cap:Nat} (hL:TokOk L) (hR:R<w.heap.size) (hc:L.length≤cap) (hA:zI R L w) (hs:1<w.heap.size) (ST:iZ 1 tsgnL w) (o:Obj) :
  PSt w.heap.size L ((w.alloc (.cells #[.slice (some ⟨R,0,none⟩) L.length cap,.int .i64 0] 66)).alloc o) L:=by
 have A1:=(Below.refl _ w).alloc (Nat.le_refl _) (.cells #[.slice (some ⟨R,0,none⟩) L.length cap,.int .i64 0] 66);have A2:=(Below.refl _ (w.alloc (.cells #[.slice (some ⟨R,0,none⟩) L.length cap,.int .i64 0] 66))).alloc (Nat.le_refl _) o;have A:=bB A1 A2;refine⟨hL,List.suffix_refl _,Ap hL,⟨by simp;omega,hs,dJ ST hs A⟩,R,cap,hR,hc,?_,?_⟩
 ·intro i hi;obtain⟨x1,x2,x3,x4⟩:=hA i hi;have e:=A.block R hR;exact⟨fQ e x1,fQ e x2,fQ e x3,fQ e x4⟩
 ·have:=aC (aI w 66 #[.slice (some ⟨R,0,none⟩) L.length cap,.int .i64 0]) A2;simpa using this
theorem KU {a c:World} {nb ab eb lo:Nat} {cs:Array Value} {x y:Value} (h:Three a c nb ab eb cs x y) (h1:nb<lo) (h2:ab<lo) (h3:eb<lo):LO lo a c:=⟨by rw [h.size];exact Nat.le_refl _,fun k hk _=>h.rest k (by omega) (by omega) (by omega)⟩
theorem xP {R:Nat} {L:List Tok} {a c:World} (h:zI R L a) (k:c.heap[R]? = a.heap[R]?):zI R L c:=by
 intro i hi;obtain⟨x1,x2,x3,x4⟩:=h i hi;exact⟨fQ k x1,fQ k x2,fQ k x3,fQ k x4⟩
theorem GK (s:ByteArray) (hs:s.size≤1000000) (w:World) (h0:0<w.heap.size) (h1:1<w.heap.size) (SG:Hid (iZ 0 sgnL w)) (ST:Hid (iZ 1 tsgnL w)) (he:(tokOut s).2.2=0) (o:PR)
  (hR:∀ (P:Nat) (w':World),Hid (PSt P (tokOut s).1 w' (tokOut s).1)→Calls Tryz.prog 20 #[.pointer (some ⟨P,0,none⟩)] w' (bR P (tokOut s).1 w' o)) (hcount:∀ x b l,o=.ok x b l→bH x≤1000000) :
  Calls Tryz.prog 19 #[.string s,.func (.func 20) #[] #[]] w (IG w (wR o)):=by
 have A1:=(Below.refl _ w).alloc (Nat.le_refl _) (.cells #[.int .i64 0,.int .i64 0,.int .i64 0,.string ⟨#[]⟩,.slice none 0 0,.slice none 0 0,.int .i64 0] 26);have A2:=(Below.refl _ (w.alloc (.cells #[.int .i64 0,.int .i64 0,.int .i64 0,.string ⟨#[]⟩,.slice none 0 0,.slice none 0 0,.int .i64 0] 26))).alloc (Nat.le_refl _) (.cells #[.int .i64 0] 3);have A3:=(Below.refl _ ((w.alloc (.cells #[.int .i64 0,.int .i64 0,.int .i64 0,.string ⟨#[]⟩,.slice none 0 0,.slice none 0 0,.int .i64 0] 26)).alloc (.cells #[.int .i64 0] 3))).alloc (Nat.le_refl _) (.cells #[.int .i64 0] 27);have N0:=aA (aC (aC (aI w 26 #[.int .i64 0,.int .i64 0,.int .i64 0,.string ⟨#[]⟩,.slice none 0 0,.slice none 0 0,.int .i64 0]) A2) A3);have T0:=aA (show dP (w.heap.size+1) 3 #[.int .i64 0] (((w.alloc (.cells #[.int .i64 0,.int .i64 0,.int .i64 0,.string ⟨#[]⟩,.slice none 0 0,.slice none 0 0,.int .i64 0] 26)).alloc (.cells #[.int .i64 0] 3)).alloc (.cells #[.int .i64 0] 27)) from by
  have:=aC (aI (w.alloc (.cells #[.int .i64 0,.int .i64 0,.int .i64 0,.string ⟨#[]⟩,.slice none 0 0,.slice none 0 0,.int .i64 0] 26)) 3 #[.int .i64 0]) A3;simpa using this)
 have E0:=aA (show dP (w.heap.size+1+1) 27 #[.int .i64 0] (((w.alloc (.cells #[.int .i64 0,.int .i64 0,.int .i64 0,.string ⟨#[]⟩,.slice none 0 0,.slice none 0 0,.int .i64 0] 26)).alloc (.cells #[.int .i64 0] 3)).alloc (.cells #[.int .i64 0] 27)) from by
  have:=aI ((w.alloc (.cells #[.int .i64 0,.int .i64 0,.int .i64 0,.string ⟨#[]⟩,.slice none 0 0,.slice none 0 0,.int .i64 0] 26)).alloc (.cells #[.int .i64 0] 3)) 27 #[.int .i64 0];simpa using this)
 have B0:=aA (bB (bB A1 A2) A3);have TC:=aA (vN s hs (((w.alloc (.cells #[.int .i64 0,.int .i64 0,.int .i64 0,.string ⟨#[]⟩,.slice none 0 0,.slice none 0 0,.int .i64 0] 26)).alloc (.cells #[.int .i64 0] 3)).alloc (.cells #[.int .i64 0] 27)) (by simp) (aA (dJ SG.out h0 B0.out)));clear A1 A2 A3;cases o with
 | bad l'=>
  clear hcount;have HE:=aA he;have HL:=aA (wQ he);clear he;have hmf:∀ (fn:Fn) (first cap:Array Value) (w:World),(Instr.makeFunc fn first cap).run Tryz.prog w=.ok (.func fn first cap) w:=fun _ _ _ _=>rfl
  have HR:=aA (fun P w' S=>hR P w' S);clear hR;obtain⟨⟨L,at_,er⟩,ho⟩:∃ o,tokOut s=o:=⟨_,rfl⟩
  rw [ho] at TC HE HL HR;have her:er=0:=HE.out;subst her;clear ho HE;go_enter_defers Tryz.func19,Tryz.ntmps19
  go_wp2_with fail;refine TC.out.mono ?_;rintro e w1 ⟨v,rfl,row,b1⟩;obtain⟨R,cap,rfl,hcap,hRl,hRs,hTA⟩:=BU row (Ap HL.out);have N1:=aA (aC N0.out b1);have T1:=aA (aC T0.out b1);have E1:=aA (aC E0.out b1);have B1:=aA (bB B0.out b1);have hw01:w.heap.size+1+1+1≤R:=by simpa using hRl
  have Z1:=yN N1.out T1.out E1.out (by omega) (by omega) (by omega) (.int .i64 (at_:Int)) (.int .i64 0);have BZ:=B1.out.trans (Z1.below (by omega) (by omega) (by omega));have hs1:=Z1.size;have S2:=aA (BV (cap:=cap) (R:=R) HL.out (by rw [hs1];exact hRs) hcap (xP hTA (Z1.rest R (by omega) (by omega) (by omega))) (by have:=BZ.size;omega) (dJ ST.out h1 BZ) (.cells #[.pointer (some ⟨w1.heap.size,0,none⟩)] 43));rw [hs1] at S2;have A1:=(Below.refl _ ((w1.setCell ⟨w.heap.size+1,0,none⟩ (.int .i64 (at_:Int))).setCell ⟨w.heap.size+1+1,0,none⟩ (.int .i64 0))).alloc (Nat.le_refl _) (.cells #[.slice (some ⟨R,0,none⟩) L.length cap,.int .i64 0] 66);have A2:=(Below.refl _ (((w1.setCell ⟨w.heap.size+1,0,none⟩ (.int .i64 (at_:Int))).setCell ⟨w.heap.size+1+1,0,none⟩ (.int .i64 0)).alloc (.cells #[.slice (some ⟨R,0,none⟩) L.length cap,.int .i64 0] 66))).alloc (Nat.le_refl _) (.cells #[.pointer (some ⟨w1.heap.size,0,none⟩)] 43);have N2:=aA (aC (aC Z1.gn A1) A2);have T2:=aA (aC (aC Z1.ga A1) A2);have E2:=aA (aC (aC Z1.ge A1) A2);have Q2:=aA (show dP (w1.heap.size+1) 43 #[.pointer (some ⟨w1.heap.size,0,none⟩)] ((((w1.setCell ⟨w.heap.size+1,0,none⟩ (.int .i64 (at_:Int))).setCell ⟨w.heap.size+1+1,0,none⟩ (.int .i64 0)).alloc (.cells #[.slice (some ⟨R,0,none⟩) L.length cap,.int .i64 0] 66)).alloc (.cells #[.pointer (some ⟨w1.heap.size,0,none⟩)] 43)) from by
   have:=aI (((w1.setCell ⟨w.heap.size+1,0,none⟩ (.int .i64 (at_:Int))).setCell ⟨w.heap.size+1+1,0,none⟩ (.int .i64 0)).alloc (.cells #[.slice (some ⟨R,0,none⟩) L.length cap,.int .i64 0] 66)) 43 #[.pointer (some ⟨w1.heap.size,0,none⟩)];simpa [hs1] using this)
  have B2:=aA ((BZ.trans (A1.mono (by have:=BZ.size;omega))).trans (A2.mono (by have:=BZ.size;simp;omega)));have hs2:((((w1.setCell ⟨w.heap.size+1,0,none⟩ (.int .i64 (at_:Int))).setCell ⟨w.heap.size+1+1,0,none⟩ (.int .i64 0)).alloc (.cells #[.slice (some ⟨R,0,none⟩) L.length cap,.int .i64 0] 66)).alloc (.cells #[.pointer (some ⟨w1.heap.size,0,none⟩)] 43)).heap.size=w1.heap.size+1+1:=by simp [hs1]
  have t0:=aB T1.out 0;have t1:=bG T1.out 0;have e0:=aB E1.out 0;have e1:=bG E1.out 0;simp at t0 e0;have ht1:=aF T1.out;have he1:=aF E1.out;clear row b1 N0 T0 E0 B0 TC N1 B1 Z1 BZ hTA A1 A2 T1 E1 HL;unfold tF;go_wp2_with fail;refine (HR.out _ _ S2).mono ?_;rintro e w3 ⟨rfl,s3,b3⟩;have S3:=aA s3;have N3:=aA (aD N2.out b3 (by omega));have T3:=aA (aD T2.out b3 (by omega));have E3:=aA (aD E2.out b3 (by omega));have Q3:=aA (aD Q2.out b3 (by omega));have B3:=aA (B2.out.trans (b3.below (B:=w.heap.size) (by omega) B2.out.size));clear s3 b3 HR S2 N2 T2 E2 Q2 B2;unfold aV;go_wp2_with fail;refine leaves_cons (f:=36) (args:=#[.pointer (some ⟨w1.heap.size+1,0,none⟩),.pointer (some ⟨w.heap.size,0,none⟩),.pointer (some ⟨w.heap.size+1,0,none⟩),.pointer (some ⟨w.heap.size+1+1,0,none⟩)]) (by simp) (by simp [go_sem]) ?_;refine (rF w1.heap.size (w1.heap.size+1) (w.heap.size) (w.heap.size+1) (w.heap.size+1+1) L l' _ (by omega) (by omega) (by omega) S3 (aA ⟨Q3.out,⟨_,_,_,_,_,_,_,N3.out⟩,⟨_,T3.out⟩,⟨_,E3.out⟩⟩)).mono ?_;rintro e u w9 ⟨rfl,rfl,n9,t9,e9,sz9,os9,rest9⟩;exact⟨_,pX rfl rfl rfl rfl n9 t9 e9,_,_,rfl,Ar,⟨os9.1.trans B3.out.os,os9.2.1.trans B3.out.tape,os9.2.2.trans B3.out.output,Nat.le_trans B3.out.size sz9,fun k hk=>(rest9 k (by have:=B3.out.size;omega) (by omega) (by omega) (by omega)).trans (B3.out.block k hk)⟩⟩
 | ok x b l'=>
  have HCN:=aA (hcount x b l' rfl);clear hcount;have HE:=aA he;have HL:=aA (wQ he);clear he;have hmf:∀ (fn:Fn) (first cap:Array Value) (w:World),(Instr.makeFunc fn first cap).run Tryz.prog w=.ok (.func fn first cap) w:=fun _ _ _ _=>rfl
  have HR:=aA (fun P w' S=>hR P w' S);clear hR;obtain⟨⟨L,at_,er⟩,ho⟩:∃ o,tokOut s=o:=⟨_,rfl⟩
  rw [ho] at TC HE HL HR;have her:er=0:=HE.out;subst her;clear ho HE;go_enter_defers Tryz.func19,Tryz.ntmps19
  go_wp2_with fail;refine TC.out.mono ?_;rintro e w1 ⟨v,rfl,row,b1⟩;obtain⟨R,cap,rfl,hcap,hRl,hRs,hTA⟩:=BU row (Ap HL.out);have N1:=aA (aC N0.out b1);have T1:=aA (aC T0.out b1);have E1:=aA (aC E0.out b1);have B1:=aA (bB B0.out b1);have hw01:w.heap.size+1+1+1≤R:=by simpa using hRl
  have Z1:=yN N1.out T1.out E1.out (by omega) (by omega) (by omega) (.int .i64 (at_:Int)) (.int .i64 0);have BZ:=B1.out.trans (Z1.below (by omega) (by omega) (by omega));have hs1:=Z1.size;have S2:=aA (BV (cap:=cap) (R:=R) HL.out (by rw [hs1];exact hRs) hcap (xP hTA (Z1.rest R (by omega) (by omega) (by omega))) (by have:=BZ.size;omega) (dJ ST.out h1 BZ) (.cells #[.pointer (some ⟨w1.heap.size,0,none⟩)] 43));rw [hs1] at S2;have A1:=(Below.refl _ ((w1.setCell ⟨w.heap.size+1,0,none⟩ (.int .i64 (at_:Int))).setCell ⟨w.heap.size+1+1,0,none⟩ (.int .i64 0))).alloc (Nat.le_refl _) (.cells #[.slice (some ⟨R,0,none⟩) L.length cap,.int .i64 0] 66);have A2:=(Below.refl _ (((w1.setCell ⟨w.heap.size+1,0,none⟩ (.int .i64 (at_:Int))).setCell ⟨w.heap.size+1+1,0,none⟩ (.int .i64 0)).alloc (.cells #[.slice (some ⟨R,0,none⟩) L.length cap,.int .i64 0] 66))).alloc (Nat.le_refl _) (.cells #[.pointer (some ⟨w1.heap.size,0,none⟩)] 43);have N2:=aA (aC (aC Z1.gn A1) A2);have T2:=aA (aC (aC Z1.ga A1) A2);have E2:=aA (aC (aC Z1.ge A1) A2);have Q2:=aA (show dP (w1.heap.size+1) 43 #[.pointer (some ⟨w1.heap.size,0,none⟩)] ((((w1.setCell ⟨w.heap.size+1,0,none⟩ (.int .i64 (at_:Int))).setCell ⟨w.heap.size+1+1,0,none⟩ (.int .i64 0)).alloc (.cells #[.slice (some ⟨R,0,none⟩) L.length cap,.int .i64 0] 66)).alloc (.cells #[.pointer (some ⟨w1.heap.size,0,none⟩)] 43)) from by
   have:=aI (((w1.setCell ⟨w.heap.size+1,0,none⟩ (.int .i64 (at_:Int))).setCell ⟨w.heap.size+1+1,0,none⟩ (.int .i64 0)).alloc (.cells #[.slice (some ⟨R,0,none⟩) L.length cap,.int .i64 0] 66)) 43 #[.pointer (some ⟨w1.heap.size,0,none⟩)];simpa [hs1] using this)
  have B2:=aA ((BZ.trans (A1.mono (by have:=BZ.size;omega))).trans (A2.mono (by have:=BZ.size;simp;omega)));have hs2:((((w1.setCell ⟨w.heap.size+1,0,none⟩ (.int .i64 (at_:Int))).setCell ⟨w.heap.size+1+1,0,none⟩ (.int .i64 0)).alloc (.cells #[.slice (some ⟨R,0,none⟩) L.length cap,.int .i64 0] 66)).alloc (.cells #[.pointer (some ⟨w1.heap.size,0,none⟩)] 43)).heap.size=w1.heap.size+1+1:=by simp [hs1]
  have t0:=aB T1.out 0;have t1:=bG T1.out 0;have e0:=aB E1.out 0;have e1:=bG E1.out 0;simp at t0 e0;have ht1:=aF T1.out;have he1:=aF E1.out;clear row b1 N0 T0 E0 B0 TC N1 B1 Z1 BZ hTA A1 A2 T1 E1 HL;unfold tF;go_wp2_with fail;refine (HR.out _ _ S2).mono ?_;rintro e w3 ⟨⟨nv,kv,rfl,n3⟩,s3,b3⟩;obtain⟨a1,q1,a2,q2,rfl,rfl⟩:=aP n3;have S3:=aA s3;have N3:=aA (aD N2.out b3 (by omega));have T3:=aA (aD T2.out b3 (by omega));have E3:=aA (aD E2.out b3 (by omega));have Q3:=aA (aD Q2.out b3 (by omega));have B3:=aA (B2.out.trans (b3.below (B:=w.heap.size) (by omega) B2.out.size));have X3:=aA (bE (lo':=w1.heap.size+1+1) (by rw [hs2];exact Nat.le_refl _) n3);have hz3:w1.heap.size+1+1≤w3.heap.size:=by rw [← hs2];exact b3.size
  clear s3 b3 n3 HR S2 N2 T2 E2 Q2 B2 hs2;unfold fR;obtain⟨r0,r1,r2,r3,r4,r5,r6⟩:=aN N3.out;obtain⟨u0,u1,u2,u3,u4,u5,u6⟩:=bP N3.out;go_upto_region 7 with fail
  have hp:(put7w w3 w.heap.size (.int .i64 x.kind) (.int .i64 x.op) (.int .i64 x.num) (.string x.str) (.slice a1 x.names.length q1) (.slice a2 x.kids.length q2) (.int .i64 x.pl)).heap.size=w3.heap.size:=by simp [put7w,World.setCell]
  have N4:=aA (oL N3.out (.int .i64 x.kind) (.int .i64 x.op) (.int .i64 x.num) (.string x.str) (.slice a1 x.names.length q1) (.slice a2 x.kids.length q2) (.int .i64 x.pl));have T4:=aA (iF (g:=w.heap.size) T3.out (by omega) (.int .i64 x.kind) (.int .i64 x.op) (.int .i64 x.num) (.string x.str) (.slice a1 x.names.length q1) (.slice a2 x.kids.length q2) (.int .i64 x.pl));have E4:=aA (iF (g:=w.heap.size) E3.out (by omega) (.int .i64 x.kind) (.int .i64 x.op) (.int .i64 x.num) (.string x.str) (.slice a1 x.names.length q1) (.slice a2 x.kids.length q2) (.int .i64 x.pl));have Q4:=aA (iF (g:=w.heap.size) Q3.out (by omega) (.int .i64 x.kind) (.int .i64 x.op) (.int .i64 x.num) (.string x.str) (.slice a1 x.names.length q1) (.slice a2 x.kids.length q2) (.int .i64 x.pl));have X4:=aA (aY (cV (lo:=w1.heap.size+1+1) (g:=w.heap.size) w3 (by omega) (.int .i64 x.kind) (.int .i64 x.op) (.int .i64 x.num) (.string x.str) (.slice a1 x.names.length q1) (.slice a2 x.kids.length q2) (.int .i64 x.pl)) X3.out);have AO:=eT (ok:=fun k=>k≠w.heap.size) (g:=w.heap.size) w3 (fun h=>h rfl) (.int .i64 x.kind) (.int .i64 x.op) (.int .i64 x.num) (.string x.str) (.slice a1 x.names.length q1) (.slice a2 x.kids.length q2) (.int .i64 x.pl);have hrest:∀ k,k≠w.heap.size→(put7w w3 w.heap.size (.int .i64 x.kind) (.int .i64 x.op) (.int .i64 x.num) (.string x.str) (.slice a1 x.names.length q1) (.slice a2 x.kids.length q2) (.int .i64 x.pl)).heap[k]? = w3.heap[k]?:=fun k hk=>by
   unfold put7w;rw [Below.heap_setCell _ _ _ _ hk,Below.heap_setCell _ _ _ _ hk,Below.heap_setCell _ _ _ _ hk,Below.heap_setCell _ _ _ _ hk,Below.heap_setCell _ _ _ _ hk,Below.heap_setCell _ _ _ _ hk,Below.heap_setCell _ _ _ _ hk]
  have S4:=aA (KT S3.out N3.out (fun t h=>by simp at h) (by omega) (by omega) hp hrest);have B4:=aA (oP B3.out (Nat.le_refl _) (.int .i64 x.kind) (.int .i64 x.op) (.int .i64 x.num) (.string x.str) (.slice a1 x.names.length q1) (.slice a2 x.kids.length q2) (.int .i64 x.pl));clear AO hrest S3 N3 T3 E3 Q3 B3 X3 r0 r1 r2 r3 r4 r5 r6 u0 u1 u2 u3 u4 u5 u6;unfold put7w at N4 T4 E4 Q4 X4 S4 B4 hp;obtain⟨w4,hw4⟩:∃ w4,((((((w3.setCell ⟨w.heap.size,0,none⟩ (.int .i64 x.kind)).setCell ⟨w.heap.size,1,none⟩ (.int .i64 x.op)).setCell ⟨w.heap.size,2,none⟩ (.int .i64 x.num)).setCell ⟨w.heap.size,3,none⟩ (.string x.str)).setCell ⟨w.heap.size,4,none⟩ (.slice a1 x.names.length q1)).setCell ⟨w.heap.size,5,none⟩ (.slice a2 x.kids.length q2)).setCell ⟨w.heap.size,6,none⟩ (.int .i64 x.pl)=w4:=⟨_,rfl⟩
  rw [hw4] at N4 T4 E4 Q4 X4 S4 B4 hp ⊢;clear hw4;have q0:=aB Q4.out 0;simp at q0;have hfd:=fun (w:World)=>qM (cur l') w
  have HH:=aA (cU w1.heap.size L l' w4 S4);generalize hcl:cur l'=t at *
  have HCL:=aA hcl;clear hcl;unfold Tok.val at HH;go_wp2_with fail;refine HH.out.mono ?_;rintro e w5 ⟨rfl,b5⟩;have S5:=aA (S4.out.on b5);have N5:=aA (aC N4.out b5);have T5:=aA (aC T4.out b5);have E5:=aA (aC E4.out b5);have Q5:=aA (aC Q4.out b5);have B5:=aA (bB B4.out b5);have X5:=aA (aY (bO b5) X4.out);have hz5:=b5.size;clear b5 HH S4 N4 T4 E4 Q4 B4 X4 q0;have q0:=aB Q5.out 0;simp at q0;by_cases h6:t.kind=6
  ·have h6':(cur l').kind=6:=by rw [HCL.out];exact h6
   obtain⟨c0,c1,c2,c3,c4,c5,c6⟩:=aN N5.out;have HT:=aA (CT x w5.heap.size w5 _ _ (Nat.le_refl _) (aA (nT X5.out)) HCN.out);have H6:=aA h6';replace hfd:=fun (w:World)=>(show (Instr.field 67 (.agg #[.int .i64 6,.string t.text,.int .i64 t.num,.int .i64 t.pl]) 0).run Tryz.prog w=.ok (.int .i64 6) w by have:=hfd w;rw [h6] at this;exact this)
   clear h6' HCL S5 Q5 q0;go_wp2_with fail;refine HT.out.mono ?_;rintro e w6 ⟨rfl,b6⟩;have N6:=aA (aC N5.out b6);have T6:=aA (aC T5.out b6);have E6:=aA (aC E5.out b6);have B6:=aA (bB B5.out b6);have X6:=aA (aY (bO b6) X5.out);clear b6 HT N5 T5 E5 B5 X5 c0 c1 c2 c3 c4 c5 c6;obtain⟨c0,c1,c2,c3,c4,c5,c6⟩:=aN N6.out;obtain⟨u0,u1,u2,u3,u4,u5,u6⟩:=bP N6.out;have t0:=aB T6.out 0;have t1:=bG T6.out 0;have e0:=aB E6.out 0;have e1:=bG E6.out 0;simp at t0 e0;by_cases h12:12<fF x
   ·have hh:(12:Int)<(fF x:Int):=by omega
    have HS:=aA (show wR (.ok x b l')=(ndZ,0,13) by rw [tH,if_pos H6.out,if_pos h12]);go_wp2_with fail;refine leaves_cons (f:=36) (args:=#[.pointer (some ⟨w1.heap.size+1,0,none⟩),.pointer (some ⟨w.heap.size,0,none⟩),.pointer (some ⟨w.heap.size+1,0,none⟩),.pointer (some ⟨w.heap.size+1+1,0,none⟩)]) (by simp) (by simp [go_sem]) ?_;refine (Aq _ _ _ _ _).mono ?_;rintro e u w9 ⟨rfl,rfl,rfl⟩;have Z:=tG N6.out T6.out E6.out (by omega) (by omega) (by omega) (.int .i64 0) (.int .i64 0) (.int .i64 0) (.string ⟨#[]⟩) (.slice none 0 0) (.slice none 0 0) (.int .i64 0) (.int .i64 0) (.int .i64 13);have BL:=B6.out.trans (Z.below (by omega) (by omega) (by omega));unfold put7w at Z BL;refine⟨_,pX rfl rfl rfl rfl Z.gn Z.ga Z.ge,?_⟩;rw [HS.out];exact⟨_,_,rfl,Ar,BL⟩
   ·have hh:¬ (12:Int)<(fF x:Int):=by omega
    have HS:=aA (show wR (.ok x b l')=(x,0,0) by rw [tH,if_pos H6.out,if_neg h12]);go_wp2_with fail;refine leaves_cons (f:=36) (args:=#[.pointer (some ⟨w1.heap.size+1,0,none⟩),.pointer (some ⟨w.heap.size,0,none⟩),.pointer (some ⟨w.heap.size+1,0,none⟩),.pointer (some ⟨w.heap.size+1+1,0,none⟩)]) (by simp) (by simp [go_sem]) ?_;refine (Aq _ _ _ _ _).mono ?_;rintro e u w9 ⟨rfl,rfl,rfl⟩;have Z:=tG N6.out T6.out E6.out (by omega) (by omega) (by omega) (.int .i64 x.kind) (.int .i64 x.op) (.int .i64 x.num) (.string x.str) (.slice a1 x.names.length q1) (.slice a2 x.kids.length q2) (.int .i64 x.pl) (.int .i64 0) (.int .i64 0);have BL:=B6.out.trans (Z.below (by omega) (by omega) (by omega));have NN:=bE (lo':=w.heap.size) (by omega) (aY (KU (lo:=w1.heap.size+1+1) Z (by omega) (by omega) (by omega)) X6.out);unfold put7w at Z BL NN;refine⟨_,pX rfl rfl rfl rfl Z.gn Z.ga Z.ge,?_⟩;rw [HS.out];exact⟨_,_,rfl,NN,BL⟩
  ·have HS:=aA (show wR (.ok x b l')=(ndZ,(cur l').pl,12) by rw [tH,if_neg (by rw [HCL.out];exact h6)]);go_wp2_with fail;refine (lX w1.heap.size _).mono ?_;rintro e w6 ⟨rfl,rfl⟩;unfold aV;go_wp2_with fail;refine leaves_cons (f:=36) (args:=#[.pointer (some ⟨w1.heap.size+1,0,none⟩),.pointer (some ⟨w.heap.size,0,none⟩),.pointer (some ⟨w.heap.size+1,0,none⟩),.pointer (some ⟨w.heap.size+1+1,0,none⟩)]) (by simp) (by simp [go_sem]) ?_;refine (rF w1.heap.size (w1.heap.size+1) (w.heap.size) (w.heap.size+1) (w.heap.size+1+1) L l' _ (by omega) (by omega) (by omega) S5 (aA ⟨Q5.out,⟨_,_,_,_,_,_,_,N5.out⟩,⟨_,T5.out⟩,⟨_,E5.out⟩⟩)).mono ?_;rintro e u w9 ⟨rfl,rfl,n9,t9,e9,sz9,os9,rest9⟩;refine⟨_,pX rfl rfl rfl rfl n9 t9 e9,?_⟩;rw [HS.out];exact⟨_,_,rfl,Ar,⟨os9.1.trans B5.out.os,os9.2.1.trans B5.out.tape,os9.2.2.trans B5.out.output,Nat.le_trans B5.out.size sz9,fun k hk=>(rest9 k (by have:=B5.out.size;omega) (by omega) (by omega) (by omega)).trans (B5.out.block k hk)⟩⟩
def ED (f:Nat) (l:List Tok):PR:=(eG f [] l).bind fun _ ks l=>.ok (hJ 29 ks) false l
theorem KV (f:Nat) (s:ByteArray) (he:(tokOut s).2.2=0):iL f true s=wR (ED f (tokOut s).1):=by
 unfold iL;rw [if_neg (by rw [he];simp)];unfold qF;simp only [if_true];change (match (ED f (tokOut s).1).bind _ with | .bad l=>_ | .ok t _ _=>_)=_;cases ED f (tokOut s).1 with
 | bad l=>rfl
 | ok t b l=>
  rw [PR.bind_ok,tH];split
  ·rename_i h1;split at h1
   ·cases h1
   ·rename_i h2;injection h1 with h3;subst h3;rw [if_neg h2]
  ·rename_i h1;split at h1
   ·rename_i h2;injection h1 with h3 _ _;subst h3;rw [if_pos h2]
   ·cases h1
theorem GL (f:Nat) (s:ByteArray) (he:(tokOut s).2.2=0):∀ x b l,ED f (tokOut s).1=.ok x b l→bH x≤1000000:=by
 intro x b l h;have hm:=(yF f).stmts [] (tokOut s).1 (tokOut s).1 (wN s) ⟨by simp,by simp,[],rfl,by simp [bU]⟩;have hk:=(wQ he).few;unfold ED at h;cases hq:eG f [] (tokOut s).1 with
 | bad l1=>rw [hq] at h;cases h
 | ok ns ts l1=>
  rw [hq] at h hm;rw [PL.bind_ok] at h;injection h with e1 _ _;obtain⟨q1,q2,pre,q3,q4⟩:=hm;rw [← e1];have:=congrArg List.length q3;simp at this;simp only [hJ,bH];omega
theorem CU (f:Nat) (s:ByteArray) (hs:s.size≤1000000) (hf:20*(tokOut s).1.length+14≤f) (w:World) (h0:0<w.heap.size) (h1:1<w.heap.size) (SG:Hid (iZ 0 sgnL w)) (ST:Hid (iZ 1 tsgnL w)) :
  Calls Tryz.prog 19 #[.string s,.func (.func 20) #[] #[]] w (IG w (iL f true s)):=by
 by_cases he:(tokOut s).2.2=0
 ·rw [KV f s he];refine GK s hs w h0 h1 SG ST he _ (fun P w' S=>?_) (GL f s he);exact KQ P _ _ w' _ S (aA fun w2 S2=>Bf f P _ _ w2 hf S2)
 ·have e:iL f true s=(ndZ,((tokOut s).2.1:Int),(tokOut s).2.2):=by unfold iL;rw [if_pos he]
  rw [e];exact KR s hs _ w h0 SG he
theorem KW {fn:Func} {t1 t2 t3:Tmp} (h:fn.results=#[.cell t1 26,.tmp t2,.tmp t3]) {tmps:Array Value} {nb:Nat} {w:World} {a b c d e f p:Value} (e1:tmps.getD t1 undef=.pointer (some ⟨nb,0,none⟩))
  (h1:dP nb 26 #[a,b,c,d,e,f,p] w):(results fn tmps).run Tryz.prog w=.ok (.tuple #[.agg #[a,b,c,d,e,f,p],tmps.getD t2 undef,tmps.getD t3 undef]) w:=by
 rw [Array.getD_eq_getD_getElem?] at e1;have c0:=aB h1 0;have c1:=aB h1 1;have c2:=aB h1 2;have c3:=aB h1 3;have c4:=aB h1 4;have c5:=aB h1 5;have c6:=aB h1 6;simp at c0 c1 c2 c3 c4 c5 c6;simp [results,h,e1,go_sem,asAddr,c0,c1,c2,c3,c4,c5,c6]
theorem sD (f:Nat) (s:ByteArray) (hs:s.size≤1000000) (hf:20*(tokOut s).1.length+14≤f) (w:World) (h0:0<w.heap.size) (h1:1<w.heap.size) (SG:Hid (iZ 0 sgnL w)) (ST:Hid (iZ 1 tsgnL w)) :
  Calls Tryz.prog 8 #[.string s] w (IG w (iL f true s)):=by
 have A:=(Below.refl _ w).alloc (Nat.le_refl _) (.cells #[.int .i64 0,.int .i64 0,.int .i64 0,.string ⟨#[]⟩,.slice none 0 0,.slice none 0 0,.int .i64 0] 26);have N0:=aA (aI w 26 #[.int .i64 0,.int .i64 0,.int .i64 0,.string ⟨#[]⟩,.slice none 0 0,.slice none 0 0,.int .i64 0]);have HC:=aA (CU f s hs hf _ (by simp) (by simp;omega) (aA (dJ SG.out h0 A)) (aA (dJ ST.out h1 A)));have A0:=aA A;clear A SG ST;obtain⟨⟨x,at_,er⟩,ho⟩:∃ o,iL f true s=o:=⟨_,rfl⟩
 rw [ho] at HC ⊢;clear ho;go_enter Tryz.func8,Tryz.ntmps8;go_wp2_with fail;refine HC.out.mono ?_;rintro e w1 ⟨nv,kv,rfl,n1,b1⟩;obtain⟨a1,q1,a2,q2,rfl,rfl⟩:=aP n1;have X1:=aA (bE (lo':=w.heap.size+1) (by simp) n1);have N1:=aA (aC N0.out b1);have B1:=aA (bB A0.out b1);clear n1 b1 HC N0 A0;unfold fR;obtain⟨r0,r1,r2,r3,r4,r5,r6⟩:=aN N1.out;obtain⟨u0,u1,u2,u3,u4,u5,u6⟩:=bP N1.out;go_wp2_with fail;have Z:=oL N1.out (.int .i64 x.kind) (.int .i64 x.op) (.int .i64 x.num) (.string x.str) (.slice a1 x.names.length q1) (.slice a2 x.kids.length q2) (.int .i64 x.pl);have BL:=oP B1.out (Nat.le_refl _) (.int .i64 x.kind) (.int .i64 x.op) (.int .i64 x.num) (.string x.str) (.slice a1 x.names.length q1) (.slice a2 x.kids.length q2) (.int .i64 x.pl);have NN:=bE (Nat.le_succ _) (aY (cV w1 (Nat.lt_succ_self _) (.int .i64 x.kind) (.int .i64 x.op) (.int .i64 x.num) (.string x.str) (.slice a1 x.names.length q1) (.slice a2 x.kids.length q2) (.int .i64 x.pl)) X1.out);exact bodyPost_ret (KW rfl rfl Z) rfl ⟨_,_,rfl,NN,BL⟩
def GM:ByteArray:=⟨#[97,46,102,40,49,41,46,120,32,61,32,50,59]⟩
def MM:Nd:=.mk 16 0 0 ⟨#[102]⟩ [] [.mk 5 0 0 ⟨#[97]⟩ [] [] 0,.mk 3 0 1 bz [] [] 0] 0
def MN:Nd:=.mk 23 0 0 ⟨#[120]⟩ [] [MM,.mk 3 0 2 bz [] [] 0] 0
def CV:Nd:=.mk 29 0 0 bz [] [MN] 0
theorem GN:(tokOut GM).1.length=12:=by kernel_rfl
theorem GO:iL 300 true GM=(CV,0,0):=by kernel_rfl
theorem As {w:World} {b i:Nat} {v:Value} (h:w.cell? ⟨b,i,none⟩=some v):b<w.heap.size:=by
 rcases Nat.lt_or_ge b w.heap.size with h1 | h1
 ·exact h1
 ·simp [World.cell?,Array.getElem?_eq_none h1] at h
theorem MO {lo:Nat} {w:World} {nv kv:Value} (h:tP lo w CV nv kv):∃ b c b2 c2 m nv2,kv=.slice (some ⟨b,c,none⟩) 1 m∧w.cell? ⟨b,c,none⟩=some (.int .i64 23)∧w.cell? ⟨b,c+5,none⟩=some (.slice (some ⟨b2,c2,none⟩) 2 nv2)∧w.cell? ⟨b2,c2,none⟩=some (.int .i64 16):=by
 unfold CV at h;rcases (In h).2 with ⟨_,_,_,h2⟩ | ⟨b,c,m,e,hb,h3,_⟩
 ·cases h2
 ·unfold MN at h3;rw [oB] at h3;obtain⟨⟨nv1,kv1,⟨x0,_,_,_,_,x5,_⟩,h4⟩,_⟩:=h3;rcases (ndW_mk.1 h4).2.2 with ⟨_,_,_,h2⟩ | ⟨b2,c2,m2,e2,hb2,h5,_⟩
  ·cases h2
  ·unfold MM at h5;rw [oB] at h5;obtain⟨⟨_,_,⟨y0,_⟩,_⟩,_⟩:=h5;exact⟨b,c,b2,c2,m,m2,e,x0,by rw [x5,e2];rfl,y0⟩
theorem mB (w:World) (h0:0<w.heap.size) (h1:1<w.heap.size) (SG:Hid (iZ 0 sgnL w)) (ST:Hid (iZ 1 tsgnL w)) :
  Calls Tryz.prog 7 #[] w fun e w'=>e=.returned (.bool true)∧Below w.heap.size w w':=by
 have hc:=sD 300 GM (by decide) (by rw [GN];decide) w h0 h1 SG ST;rw [GO] at hc;have HC:=aA (show Calls Tryz.prog 8 #[.string ⟨#[97,46,102,40,49,41,46,120,32,61,32,50,59]⟩] w (fun e w'=>∃ nv kv,e=.returned (.tuple #[.agg #[.int .i64 29,.int .i64 0,.int .i64 0,.string bz,nv,kv,.int .i64 0],.int .i64 0,.int .i64 0])∧tP w.heap.size w' CV nv kv∧Below w.heap.size w w') from hc);clear SG ST hc;go_enter Tryz.func7,Tryz.ntmps7;go_wp2_with fail;refine HC.out.mono ?_;rintro e w1 ⟨nv,kv,rfl,n1,b1⟩;obtain⟨a1,q1,_,_,hnv,_⟩:=aP n1;replace hnv:nv=.slice a1 0 q1:=hnv;subst hnv;obtain⟨b,c,b2,c2,m,m2,rfl,c0,c5,d0⟩:=MO n1;have B1:=aA b1;clear b1 HC n1;have hb:=As c0;have hb2:=As d0;have AL:=(Below.refl _ w1).alloc (Nat.le_refl _) (.cells #[.int .i64 29,.int .i64 0,.int .i64 0,.string bz,.slice a1 0 q1,.slice (some ⟨b,c,none⟩) 1 m,.int .i64 0] 26);have c0':=(AL.cell (p:=⟨b,c,none⟩) hb).trans c0;have c5':=(AL.cell (p:=⟨b,c+5,none⟩) hb).trans c5;have d0':=(AL.cell (p:=⟨b2,c2,none⟩) hb2).trans d0;have N2:=aI w1 26 #[.int .i64 29,.int .i64 0,.int .i64 0,.string bz,.slice a1 0 q1,.slice (some ⟨b,c,none⟩) 1 m,.int .i64 0];obtain⟨s0,s1,s2,s3,s4,s5,s6⟩:=aN N2;have B2:=aA (bB B1.out AL);clear AL N2 c0 c5 d0 hb hb2 B1;go_wp2_with fail;go_ret;exact⟨rfl,B2.out⟩
theorem uO {s:ByteArray} (h:nameB s.data.toList=true):s.size≤100:=by
 rw [← cF];generalize s.data.toList=l at *
 cases l with
 | nil=>simp [nameB] at h
 | cons c r=>simp [nameB] at h;simp;omega
theorem proper_name {s:ByteArray} (h:properB s=true):nameB s.data.toList=true:=by
 unfold properB at h;simp at h;exact h.1
theorem Li {k:Int} {s:ByteArray} (h:bM k s=true):s.size≤600:=by
 unfold bM at h;split at h
 ·have:=of_decide_eq_true h;omega
 ·split at h
  ·have:=uO (proper_name h);omega
  ·split at h
   ·have:=uO (show nameB s.data.toList=true from h);omega
   ·have:=of_decide_eq_true h;omega
theorem Nq {k:Int} {ns:List ByteArray} (h:cR k ns=true):ns.length≤60∧DH ns=false:=by
 have key:(∀ s∈ns,nameB s.data.toList=true)→DH ns=false:=by
  intro hn;unfold DH;rw [List.any_eq_false];intro x hx;have:=uO (hn x hx);simp;omega
 unfold cR at h;split at h
 ·rw [Bool.and_eq_true,decide_eq_true_iff,List.all_eq_true] at h;exact⟨by omega,key fun s hs=>h.2 s hs⟩
 ·split at h
  ·rw [Bool.and_eq_true,decide_eq_true_iff,List.all_eq_true] at h;exact⟨by omega,key fun s hs=>proper_name (h.2 s hs)⟩
  ·rw [decide_eq_true_iff] at h;have:ns=[]:=List.length_eq_zero_iff.1 h;subst this;exact⟨by simp,rfl⟩
theorem xW {k:Int} : ∀ {ks:List Nd} {i:Nat},cL ks k i=true→∀ x∈ks,∃ a,rightN x a=true
 | [],_,_=>by simp
 | y::r,i,h=>by
  rw [cL,Bool.and_eq_true] at h;intro x hx;rcases List.mem_cons.1 hx with rfl | hx
  ·exact⟨_,h.1⟩
  ·exact xW h.2 x hx
theorem AI:∀ {ks:List Nd},(∀ x∈ks,dO x=true)→tY ks=true
 | [],_=>by rw [tY]
 | x::r,h=>by rw [tY,h x (by simp),AI (fun y hy=>h y (by simp [hy]))];rfl
theorem ER {t:Nd} : ∀ {a:Nat},rightN t a=true→dO t=true:=by
 refine Nd.ind (P:=fun t=>∀ {a:Nat},rightN t a=true→dO t=true) ?_ t;intro k o n s ns ks p ih a h;rw [aQ,Bool.and_eq_true,Bool.and_eq_true] at h;obtain⟨_,h1,h2⟩:=h;unfold kD at h1;simp only [Bool.and_eq_true] at h1;obtain⟨_,_,h3,h4,_⟩:=h1;have e1:=Li h3;obtain⟨e2,e3⟩:=Nq h4;have e4:tY ks=true:=AI fun x hx=>by
  obtain⟨b,hb⟩:=xW h2 x hx;exact ih x hx hb
 rw [dO,e3,e4];simp [e1,e2]
theorem xX {t:Nd} (h:checkN t=0):dO t=true:=by
 unfold checkN at h;split at h
 ·cases h
 ·split at h
  ·rename_i hr;exact ER hr
  ·cases h
end Go.Proofs.YtdnnmjhfidimcaaGreatDoor
