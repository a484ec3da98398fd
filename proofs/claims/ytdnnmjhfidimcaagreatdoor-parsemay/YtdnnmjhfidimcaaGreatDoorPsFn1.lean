/- One parameter more. -/
import Derived.Test.YtdnnmjhfidimcaaGreatDoorTk
import Derived.Test.YtdnnmjhfidimcaaGreatDoorJoint23
import Derived.Test.YtdnnmjhfidimcaaGreatDoorJoint21
namespace Go.Proofs.YtdnnmjhfidimcaaGreatDoor
set_option maxRecDepth 100000
set_option maxHeartbeats 12800000
open Go.RowKit
def Gp (P nb pb lo:Nat) (ok:Nat→Prop) (kd at_:Int) (s:List ByteArray×List Nd) (w:World):Prop:=
 ∃ nv kv,dP nb 26 #[.int .i64 kd,.int .i64 0,.int .i64 0,.string ⟨#[]⟩,nv,kv,.int .i64 at_] w∧dP pb 43 #[.pointer (some ⟨P,0,none⟩)] w∧oY lo ok w nv s.1∧jC lo (Iv ok nv) w kv s.2
theorem Iy {P nb pb lo:Nat} {ok:Nat→Prop} {kd at_:Int} (C:C1 P nb pb lo ok) (s:List ByteArray×List Nd) (a b:World) (h:Gp P nb pb lo ok kd at_ s a) (k:But P a b):Gp P nb pb lo ok kd at_ s b:=by
 obtain⟨nv,kv,h1,h2,h3,h4⟩:=h;have:=C.k;have:=C.q;have:=C.p;exact⟨nv,kv,aD h1 k (by omega),aD h2 k (by omega),jE h3 k C.np,dR h4 k (fun h=>C.np h.1)⟩
def gY (_:Nat) (s:List ByteArray×List Nd) (l:List Tok):PG (List ByteArray×List Nd):=if qC false l then .ok (s.1++[(cur l).text],s.2) l.tail else .bad l
set_option linter.unusedSimpArgs false in
set_option linter.unusedVariables false in
theorem PO (P nb pb lo:Nat) (L:List Tok) (ok:Nat→Prop) (C:C1 P nb pb lo ok) (kd at_:Int) (ns:List ByteArray) (ks:List Nd) (kv nv:Value) (w:World) (hkl:ns.length≤40) (hlw:lo≤w.heap.size) (l:List Tok) (HW:Hid (qC false l=false)) (H:Hid (PSt P L w l))
  (HK:Hid (dP nb 26 #[.int .i64 kd,.int .i64 0,.int .i64 0,.string ⟨#[]⟩,nv,kv,.int .i64 at_] w)) (HQ:Hid (dP pb 43 #[.pointer (some ⟨P,0,none⟩)] w)) (HM:Hid (oY lo ok w nv ns)) (HR:Hid (jC lo (Iv ok nv) w kv ks)) :
  Calls Tryz.prog 192 #[.pointer (some ⟨nb,0,none⟩),.pointer (some ⟨pb,0,none⟩)] w (kK (Gp P nb pb lo ok kd at_) lo P L w (.bad l)):=by
 obtain⟨ao,cap,rfl⟩:=lK HM.out;have DR:=(Below.refl w.heap.size w).drew;have S0:=aA (H.out.on DR);have K0:=aA (aC HK.out DR);have Q0:=aA (aC HQ.out DR);have M0:=aA (dX HM.out DR);have R0:=aA (bD HR.out DR);have B0:=aA (ButLo.of (lo:=lo) (But.of (P:=P) DR) hlw);have hkP:P<nb:=by have:=C.k;have:=C.p;omega
 have hqP:P<pb:=by have:=C.q;have:=C.p;omega
 have hP:P<lo:=C.p;clear H HK HQ HM HR DR;go_enter Tryz.func192,Tryz.ntmps192;go_wp2_with fail;refine wp_region_held_drew (S:=(fun a=>a.cell? ⟨pb,0,none⟩=some (.pointer (some ⟨P,0,none⟩)))) (by kernel_rfl) ?_ (fun hHeld=>?_)
 ·exact (aB Q0.out 0).trans rfl
 obtain⟨w0,hw0⟩:∃ w0,w.drew=w0:=⟨_,rfl⟩
 rw [hw0] at hHeld S0 K0 Q0 M0 R0 B0 ⊢;have hz0:w.heap.size=w0.heap.size:=by rw [← hw0];rfl
 clear hw0;refine wpAnyH_take (i:=0) (v:=?vk16) rfl (by kernel_rfl) (by kernel_rfl) (by kernel_rfl) (fun _ _ _ h=>h) (Or.inl ⟨by rfl,?hyk16⟩) (by assumption) ?_
 case hyk16=>(intro w hSw;go_simp<;>(try with_reducible rfl))
 simp only [Act.put,List.setIfInBounds_toArray,List.set_cons_zero,List.set_cons_succ,List.getElem_toArray,List.getElem_cons_succ,List.getElem_cons_zero];refine wpAnyH_take (i:=2) (v:=?vk17) rfl (by kernel_rfl) (by kernel_rfl) (by kernel_rfl) (fun _ _ _ h=>h) (Or.inl ⟨by rfl,?hyk17⟩) (by assumption) ?_
 case hyk17=>(intro w hSw;go_simp<;>(try with_reducible rfl))
 simp only [Act.put,List.setIfInBounds_toArray,List.set_cons_zero,List.set_cons_succ,List.getElem_toArray,List.getElem_cons_succ,List.getElem_cons_zero];refine wpAnyH_ready (rs:=[1,3]) (by kernel_rfl) (by simp) ?_;refine AllReadyH.cons rfl (fun K hK=>?_) (AllReadyH.cons rfl (fun K hK=>?_) AllReadyH.nil)
 ·have HK:=aA hK;clear hK;have k0:=aB K0.out 4;simp at k0;go_simp;refine HK.out.out _ _ ?_ (fun hHeld=>?_)
  ·exact (aB Q0.out 0).trans rfl
  clear HK K k0;refine iV 3 (fun K hK=>?_)
  ·clear hK;go_simp;refine (Ct P L l _ S0 HW.out).mono ?_;rintro e3 w1 ⟨rfl,b3⟩;have S1:=aA (S0.out.on b3);have B1:=aA (B0.out.trans (ButLo.of (But.of (P:=P) b3) (by have:=B0.out.size;omega)));clear b3;unfold aV;go_wp2_with fail;exact⟨rfl,rfl,S1.out,B1.out⟩
 ·clear hK;go_simp;refine (Ct P L l _ S0 HW.out).mono ?_;rintro e3 w2 ⟨rfl,b3⟩;have S2:=aA (S0.out.on b3);have B2:=aA (B0.out.trans (ButLo.of (But.of (P:=P) b3) (by have:=B0.out.size;omega)));clear b3;unfold aV;go_wp2_with fail;exact⟨rfl,rfl,S2.out,B2.out⟩
set_option linter.unusedSimpArgs false in
set_option linter.unusedVariables false in
theorem On (P nb pb lo:Nat) (L:List Tok) (ok:Nat→Prop) (C:C1 P nb pb lo ok) (kd at_:Int) (ns:List ByteArray) (ks:List Nd) (kv nv:Value) (w:World) (hkl:ns.length≤40) (hlw:lo≤w.heap.size) (t:Tok) (q:List Tok) (HW:Hid (t.kind=1)) (H:Hid (PSt P L w (t::q)))
  (HK:Hid (dP nb 26 #[.int .i64 kd,.int .i64 0,.int .i64 0,.string ⟨#[]⟩,nv,kv,.int .i64 at_] w)) (HQ:Hid (dP pb 43 #[.pointer (some ⟨P,0,none⟩)] w)) (HM:Hid (oY lo ok w nv ns)) (HR:Hid (jC lo (Iv ok nv) w kv ks)) :
  Calls Tryz.prog 192 #[.pointer (some ⟨nb,0,none⟩),.pointer (some ⟨pb,0,none⟩)] w (kK (Gp P nb pb lo ok kd at_) lo P L w (.ok (ns++[t.text],ks) q)):=by
 obtain⟨ao,cap,rfl⟩:=lK HM.out;have DR:=(Below.refl w.heap.size w).drew;have S0:=aA (H.out.on DR);have K0:=aA (aC HK.out DR);have Q0:=aA (aC HQ.out DR);have M0:=aA (dX HM.out DR);have R0:=aA (bD HR.out DR);have B0:=aA (ButLo.of (lo:=lo) (But.of (P:=P) DR) hlw);have hkP:P<nb:=by have:=C.k;have:=C.p;omega
 have hqP:P<pb:=by have:=C.q;have:=C.p;omega
 have hP:P<lo:=C.p;clear H HK HQ HM HR DR;go_enter Tryz.func192,Tryz.ntmps192;go_wp2_with fail;refine wp_region_held_drew (S:=(fun a=>a.cell? ⟨pb,0,none⟩=some (.pointer (some ⟨P,0,none⟩)))) (by kernel_rfl) ?_ (fun hHeld=>?_)
 ·exact (aB Q0.out 0).trans rfl
 obtain⟨w0,hw0⟩:∃ w0,w.drew=w0:=⟨_,rfl⟩
 rw [hw0] at hHeld S0 K0 Q0 M0 R0 B0 ⊢;have hz0:w.heap.size=w0.heap.size:=by rw [← hw0];rfl
 clear hw0;refine wpAnyH_take (i:=0) (v:=?vk18) rfl (by kernel_rfl) (by kernel_rfl) (by kernel_rfl) (fun _ _ _ h=>h) (Or.inl ⟨by rfl,?hyk18⟩) (by assumption) ?_
 case hyk18=>(intro w hSw;go_simp<;>(try with_reducible rfl))
 simp only [Act.put,List.setIfInBounds_toArray,List.set_cons_zero,List.set_cons_succ,List.getElem_toArray,List.getElem_cons_succ,List.getElem_cons_zero];refine wpAnyH_take (i:=2) (v:=?vk19) rfl (by kernel_rfl) (by kernel_rfl) (by kernel_rfl) (fun _ _ _ h=>h) (Or.inl ⟨by rfl,?hyk19⟩) (by assumption) ?_
 case hyk19=>(intro w hSw;go_simp<;>(try with_reducible rfl))
 simp only [Act.put,List.setIfInBounds_toArray,List.set_cons_zero,List.set_cons_succ,List.getElem_toArray,List.getElem_cons_succ,List.getElem_cons_zero];refine wpAnyH_ready (rs:=[1,3]) (by kernel_rfl) (by simp) ?_;refine AllReadyH.cons rfl (fun K hK=>?_) (AllReadyH.cons rfl (fun K hK=>?_) AllReadyH.nil)
 ·have HK:=aA hK;clear hK;have k0:=aB K0.out 4;simp at k0;go_simp;refine HK.out.out _ _ ?_ (fun hHeld=>?_)
  ·exact (aB Q0.out 0).trans rfl
  clear HK K k0;refine iV 3 (fun K hK=>?_)
  ·have HK:=aA hK;clear hK;go_simp;refine (rM P L t q _ S0 HW.out).mono ?_;rintro e3 w1 ⟨rfl,s3,b3⟩;have S1:=aA s3;have K1:=aA (aD K0.out b3 (by omega));have Q1:=aA (aD Q0.out b3 (by omega));have M1:=aA (jE M0.out b3 C.np);have R1:=aA (dR R0.out b3 (fun h=>C.np h.1));have B1:=aA (B0.out.trans (ButLo.of b3 (by have:=B0.out.size;omega)));have hz1:w0.heap.size≤w1.heap.size:=b3.size;clear s3 b3 S0 K0 Q0 M0 R0 B0;refine HK.out.out _ _ ?_ (fun hHeld=>?_)
   ·exact (aB Q1.out 0).trans rfl
   clear HK K;refine iV 4 (fun K hK=>?_)
   ·have HK:=aA hK;clear hK;go_simp;have AZ:=(Below.refl _ w1).alloc (Nat.le_refl _) (.cells #[.string t.text] 9);have Y2:=aA (aI w1 9 #[.string t.text]);have S2:=aA (S1.out.on AZ);have K2:=aA (aC K1.out AZ);have Q2:=aA (aC Q1.out AZ);have M2:=aA (dX M1.out AZ);have R2:=aA (bD R1.out AZ);have B2:=aA (B1.out.trans (ButLo.of (But.of (P:=P) AZ) (by have:=B1.out.size;omega)));obtain⟨w2,hw2⟩:∃ w2,w1.alloc (.cells #[.string t.text] 9)=w2:=⟨_,rfl⟩
    rw [hw2] at AZ Y2 S2 K2 Q2 M2 R2 B2 ⊢;have hz2:w2.heap.size=w1.heap.size+1:=by rw [← hw2];simp
    refine HK.out.out _ _ ?_ (fun hHeld=>?_)
    ·exact (aB Q2.out 0).trans rfl
    clear HK K AZ hw2 S1 K1 Q1 M1 R1 B1;refine iV 5 (fun K hK=>?_);have HK:=aA hK;clear hK;obtain⟨i0,hi,hz0,hz1,hz2⟩:=BJ;have hsz:=B2.out.size;refine step_append_lies _ rfl _ _ 23 rfl lo 9 i0 _ 1 16 wL hi hz0 hz1 hz2 rfl (by decide) (.slice ao ns.length cap) _ (ns.map Value.string) (by rfl) M2.out.1 ⟨w1.heap.size,0,none⟩ 1 1 [.string t.text] (by rfl) rfl (pQ Y2.out) wM (by decide) (by unfold maxLen;omega) (by omega) (by omega) _ rfl ?_;intro g cap2 w3 hown' hgrow hat hlt;have S3:=aA (eP S2.out (gG hgrow (by omega) (fun k hk=>by have:=(aW M2.out k hk).2.1;omega)));have K3:=aA (cX K2.out hgrow (fun e=>C.nk ((aW M2.out _ e.symm).1)));have Q3:=aA (cX Q2.out hgrow (fun e=>C.nq ((aW M2.out _ e.symm).1)));have B3:=aA (B2.out.trans (ButLo.grown hgrow (by omega) (fun k hk=>(aW M2.out k hk).2.1)));have PU:=Kk hown' hgrow hat M2.out R2.out (C.up _ (aF K2.out) (aF Q2.out)) (by omega) (aF K2.out) (aF Q2.out) C.nk C.nq;obtain⟨m3,r3,hgl,hgk,hgp⟩:=PU;have M3:=aA m3;have R3:=aA r3;clear hi hz0 hz1 hz2 i0 hown' hgrow hat hlt m3 r3 Y2 S2 K2 Q2 M2 R2 B2;refine HK.out.out _ _ ?_ (fun hHeld=>?_)
    ·exact (aB Q3.out 0).trans rfl
    clear HK K;refine wpAnyH_take (i:=6) (v:=?vk20) rfl (by kernel_rfl) (by kernel_rfl) (by kernel_rfl) (fun _ _ _ h=>h) (Or.inl ⟨by rfl,?hyk20⟩) (by assumption) ?_
    case hyk20=>(intro w hSw;go_simp<;>(try with_reducible rfl))
    simp only [Act.put,List.setIfInBounds_toArray,List.set_cons_zero,List.set_cons_succ,List.getElem_toArray,List.getElem_cons_succ,List.getElem_cons_zero];refine iV 7 (fun K hK=>?_);have HK:=aA hK;clear hK;have k4:=aB K3.out 4;have z4:=bG K3.out 4;simp at k4;go_simp;have hqk:pb≠nb:=Ne.symm C.ne;have K5:=aA (dQ K3.out 4 (.slice (some ⟨g,0,none⟩) (ns.length+1) cap2));have Q5:=aA (show dP pb 43 #[.pointer (some ⟨P,0,none⟩)] (w3.setCell ⟨nb,4,none⟩ (.slice (some ⟨g,0,none⟩) (ns.length+1) cap2)) from (Below.heap_setCell _ _ _ _ hqk).trans Q3.out);have S5:=aA (gL S3.out (i:=4) hkP (.slice (some ⟨g,0,none⟩) (ns.length+1) cap2));have M5:=aA (eE (c:=w3.setCell ⟨nb,4,none⟩ (.slice (some ⟨g,0,none⟩) (ns.length+1) cap2)) M3.out (fun b hb=>Below.heap_setCell _ _ _ _ (fun e=>C.nk (by have:=(aW M3.out b hb).1;rw [show b=nb from e] at this;exact this))));have R5:=aA (jD (c:=w3.setCell ⟨nb,4,none⟩ (.slice (some ⟨g,0,none⟩) (ns.length+1) cap2)) R3.out (by simp [World.setCell]) (fun b hb _=>Below.heap_setCell _ _ _ _ (fun e=>C.nk (by have:=hb.1;rw [show b=nb from e] at this;exact this))));have B5:=aA (B3.out.trans (ButLo.set w3 (i:=4) (.slice (some ⟨g,0,none⟩) (ns.length+1) cap2) C.k));refine HK.out.out _ _ ?_ (fun hHeld=>?_)
    ·exact (aB Q5.out 0).trans rfl
    clear HK K S3 K3 Q3 M3 R3 B3 k4 z4;simp at K5;refine wpAnyH_done (by kernel_rfl) ?_ _;go_end0
    exact⟨rfl,⟨_,_,K5.out,Q5.out,M5.out,R5.out⟩,S5.out,B5.out⟩
 ·have HK:=aA hK;clear hK;go_simp;refine (rM P L t q _ S0 HW.out).mono ?_;rintro e3 w4 ⟨rfl,s3,b3⟩;have S4:=aA s3;have K4:=aA (aD K0.out b3 (by omega));have Q4:=aA (aD Q0.out b3 (by omega));have M4:=aA (jE M0.out b3 C.np);have R4:=aA (dR R0.out b3 (fun h=>C.np h.1));have B4:=aA (B0.out.trans (ButLo.of b3 (by have:=B0.out.size;omega)));have hz4:w0.heap.size≤w4.heap.size:=b3.size;clear s3 b3 S0 K0 Q0 M0 R0 B0;refine HK.out.out _ _ ?_ (fun hHeld=>?_)
  ·exact (aB Q4.out 0).trans rfl
  clear HK K;refine wpAnyH_ready (rs:=[1,4]) (by kernel_rfl) (by simp) ?_;refine AllReadyH.cons rfl (fun K hK=>?_) (AllReadyH.cons rfl (fun K hK=>?_) AllReadyH.nil)
  ·have HK:=aA hK;clear hK;have k0:=aB K4.out 4;simp at k0;go_simp;refine HK.out.out _ _ ?_ (fun hHeld=>?_)
   ·exact (aB Q4.out 0).trans rfl
   clear HK K k0;refine iV 4 (fun K hK=>?_)
   ·have HK:=aA hK;clear hK;go_simp;have AZ:=(Below.refl _ w4).alloc (Nat.le_refl _) (.cells #[.string t.text] 9);have Y5:=aA (aI w4 9 #[.string t.text]);have S5:=aA (S4.out.on AZ);have K5:=aA (aC K4.out AZ);have Q5:=aA (aC Q4.out AZ);have M5:=aA (dX M4.out AZ);have R5:=aA (bD R4.out AZ);have B5:=aA (B4.out.trans (ButLo.of (But.of (P:=P) AZ) (by have:=B4.out.size;omega)));obtain⟨w5,hw5⟩:∃ w5,w4.alloc (.cells #[.string t.text] 9)=w5:=⟨_,rfl⟩
    rw [hw5] at AZ Y5 S5 K5 Q5 M5 R5 B5 ⊢;have hz5:w5.heap.size=w4.heap.size+1:=by rw [← hw5];simp
    refine HK.out.out _ _ ?_ (fun hHeld=>?_)
    ·exact (aB Q5.out 0).trans rfl
    clear HK K AZ hw5 S4 K4 Q4 M4 R4 B4;refine iV 5 (fun K hK=>?_);have HK:=aA hK;clear hK;obtain⟨i0,hi,hz0,hz1,hz2⟩:=BJ;have hsz:=B5.out.size;refine step_append_lies _ rfl _ _ 23 rfl lo 9 i0 _ 1 16 wL hi hz0 hz1 hz2 rfl (by decide) (.slice ao ns.length cap) _ (ns.map Value.string) (by rfl) M5.out.1 ⟨w4.heap.size,0,none⟩ 1 1 [.string t.text] (by rfl) rfl (pQ Y5.out) wM (by decide) (by unfold maxLen;omega) (by omega) (by omega) _ rfl ?_;intro g cap2 w6 hown' hgrow hat hlt;have S6:=aA (eP S5.out (gG hgrow (by omega) (fun k hk=>by have:=(aW M5.out k hk).2.1;omega)));have K6:=aA (cX K5.out hgrow (fun e=>C.nk ((aW M5.out _ e.symm).1)));have Q6:=aA (cX Q5.out hgrow (fun e=>C.nq ((aW M5.out _ e.symm).1)));have B6:=aA (B5.out.trans (ButLo.grown hgrow (by omega) (fun k hk=>(aW M5.out k hk).2.1)));have PU:=Kk hown' hgrow hat M5.out R5.out (C.up _ (aF K5.out) (aF Q5.out)) (by omega) (aF K5.out) (aF Q5.out) C.nk C.nq;obtain⟨m3,r3,hgl,hgk,hgp⟩:=PU;have M6:=aA m3;have R6:=aA r3;clear hi hz0 hz1 hz2 i0 hown' hgrow hat hlt m3 r3 Y5 S5 K5 Q5 M5 R5 B5;refine HK.out.out _ _ ?_ (fun hHeld=>?_)
    ·exact (aB Q6.out 0).trans rfl
    clear HK K;refine wpAnyH_take (i:=6) (v:=?vk21) rfl (by kernel_rfl) (by kernel_rfl) (by kernel_rfl) (fun _ _ _ h=>h) (Or.inl ⟨by rfl,?hyk21⟩) (by assumption) ?_
    case hyk21=>(intro w hSw;go_simp<;>(try with_reducible rfl))
    simp only [Act.put,List.setIfInBounds_toArray,List.set_cons_zero,List.set_cons_succ,List.getElem_toArray,List.getElem_cons_succ,List.getElem_cons_zero];refine iV 7 (fun K hK=>?_);have HK:=aA hK;clear hK;have k4:=aB K6.out 4;have z4:=bG K6.out 4;simp at k4;go_simp;have hqk:pb≠nb:=Ne.symm C.ne;have K5:=aA (dQ K6.out 4 (.slice (some ⟨g,0,none⟩) (ns.length+1) cap2));have Q5:=aA (show dP pb 43 #[.pointer (some ⟨P,0,none⟩)] (w6.setCell ⟨nb,4,none⟩ (.slice (some ⟨g,0,none⟩) (ns.length+1) cap2)) from (Below.heap_setCell _ _ _ _ hqk).trans Q6.out);have S5:=aA (gL S6.out (i:=4) hkP (.slice (some ⟨g,0,none⟩) (ns.length+1) cap2));have M5:=aA (eE (c:=w6.setCell ⟨nb,4,none⟩ (.slice (some ⟨g,0,none⟩) (ns.length+1) cap2)) M6.out (fun b hb=>Below.heap_setCell _ _ _ _ (fun e=>C.nk (by have:=(aW M6.out b hb).1;rw [show b=nb from e] at this;exact this))));have R5:=aA (jD (c:=w6.setCell ⟨nb,4,none⟩ (.slice (some ⟨g,0,none⟩) (ns.length+1) cap2)) R6.out (by simp [World.setCell]) (fun b hb _=>Below.heap_setCell _ _ _ _ (fun e=>C.nk (by have:=hb.1;rw [show b=nb from e] at this;exact this))));have B5:=aA (B6.out.trans (ButLo.set w6 (i:=4) (.slice (some ⟨g,0,none⟩) (ns.length+1) cap2) C.k));refine HK.out.out _ _ ?_ (fun hHeld=>?_)
    ·exact (aB Q5.out 0).trans rfl
    clear HK K S6 K6 Q6 M6 R6 B6 k4 z4;simp at K5;refine wpAnyH_done (by kernel_rfl) ?_ _;go_end0
    exact⟨rfl,⟨_,_,K5.out,Q5.out,M5.out,R5.out⟩,S5.out,B5.out⟩
  ·have HK:=aA hK;clear hK;go_simp;have AZ:=(Below.refl _ w4).alloc (Nat.le_refl _) (.cells #[.string t.text] 9);have Y7:=aA (aI w4 9 #[.string t.text]);have S7:=aA (S4.out.on AZ);have K7:=aA (aC K4.out AZ);have Q7:=aA (aC Q4.out AZ);have M7:=aA (dX M4.out AZ);have R7:=aA (bD R4.out AZ);have B7:=aA (B4.out.trans (ButLo.of (But.of (P:=P) AZ) (by have:=B4.out.size;omega)));obtain⟨w7,hw7⟩:∃ w7,w4.alloc (.cells #[.string t.text] 9)=w7:=⟨_,rfl⟩
   rw [hw7] at AZ Y7 S7 K7 Q7 M7 R7 B7 ⊢;have hz7:w7.heap.size=w4.heap.size+1:=by rw [← hw7];simp
   refine HK.out.out _ _ ?_ (fun hHeld=>?_)
   ·exact (aB Q7.out 0).trans rfl
   clear HK K AZ hw7 S4 K4 Q4 M4 R4 B4;refine iV 1 (fun K hK=>?_)
   ·have HK:=aA hK;clear hK;have k0:=aB K7.out 4;simp at k0;go_simp;refine HK.out.out _ _ ?_ (fun hHeld=>?_)
    ·exact (aB Q7.out 0).trans rfl
    clear HK K k0;refine iV 5 (fun K hK=>?_);have HK:=aA hK;clear hK;obtain⟨i0,hi,hz0,hz1,hz2⟩:=BJ;have hsz:=B7.out.size;refine step_append_lies _ rfl _ _ 23 rfl lo 9 i0 _ 1 16 wL hi hz0 hz1 hz2 rfl (by decide) (.slice ao ns.length cap) _ (ns.map Value.string) (by rfl) M7.out.1 ⟨w4.heap.size,0,none⟩ 1 1 [.string t.text] (by rfl) rfl (pQ Y7.out) wM (by decide) (by unfold maxLen;omega) (by omega) (by omega) _ rfl ?_;intro g cap2 w8 hown' hgrow hat hlt;have S8:=aA (eP S7.out (gG hgrow (by omega) (fun k hk=>by have:=(aW M7.out k hk).2.1;omega)));have K8:=aA (cX K7.out hgrow (fun e=>C.nk ((aW M7.out _ e.symm).1)));have Q8:=aA (cX Q7.out hgrow (fun e=>C.nq ((aW M7.out _ e.symm).1)));have B8:=aA (B7.out.trans (ButLo.grown hgrow (by omega) (fun k hk=>(aW M7.out k hk).2.1)));have PU:=Kk hown' hgrow hat M7.out R7.out (C.up _ (aF K7.out) (aF Q7.out)) (by omega) (aF K7.out) (aF Q7.out) C.nk C.nq;obtain⟨m3,r3,hgl,hgk,hgp⟩:=PU;have M8:=aA m3;have R8:=aA r3;clear hi hz0 hz1 hz2 i0 hown' hgrow hat hlt m3 r3 Y7 S7 K7 Q7 M7 R7 B7;refine HK.out.out _ _ ?_ (fun hHeld=>?_)
    ·exact (aB Q8.out 0).trans rfl
    clear HK K;refine wpAnyH_take (i:=6) (v:=?vk22) rfl (by kernel_rfl) (by kernel_rfl) (by kernel_rfl) (fun _ _ _ h=>h) (Or.inl ⟨by rfl,?hyk22⟩) (by assumption) ?_
    case hyk22=>(intro w hSw;go_simp<;>(try with_reducible rfl))
    simp only [Act.put,List.setIfInBounds_toArray,List.set_cons_zero,List.set_cons_succ,List.getElem_toArray,List.getElem_cons_succ,List.getElem_cons_zero];refine iV 7 (fun K hK=>?_);have HK:=aA hK;clear hK;have k4:=aB K8.out 4;have z4:=bG K8.out 4;simp at k4;go_simp;have hqk:pb≠nb:=Ne.symm C.ne;have K5:=aA (dQ K8.out 4 (.slice (some ⟨g,0,none⟩) (ns.length+1) cap2));have Q5:=aA (show dP pb 43 #[.pointer (some ⟨P,0,none⟩)] (w8.setCell ⟨nb,4,none⟩ (.slice (some ⟨g,0,none⟩) (ns.length+1) cap2)) from (Below.heap_setCell _ _ _ _ hqk).trans Q8.out);have S5:=aA (gL S8.out (i:=4) hkP (.slice (some ⟨g,0,none⟩) (ns.length+1) cap2));have M5:=aA (eE (c:=w8.setCell ⟨nb,4,none⟩ (.slice (some ⟨g,0,none⟩) (ns.length+1) cap2)) M8.out (fun b hb=>Below.heap_setCell _ _ _ _ (fun e=>C.nk (by have:=(aW M8.out b hb).1;rw [show b=nb from e] at this;exact this))));have R5:=aA (jD (c:=w8.setCell ⟨nb,4,none⟩ (.slice (some ⟨g,0,none⟩) (ns.length+1) cap2)) R8.out (by simp [World.setCell]) (fun b hb _=>Below.heap_setCell _ _ _ _ (fun e=>C.nk (by have:=hb.1;rw [show b=nb from e] at this;exact this))));have B5:=aA (B8.out.trans (ButLo.set w8 (i:=4) (.slice (some ⟨g,0,none⟩) (ns.length+1) cap2) C.k));refine HK.out.out _ _ ?_ (fun hHeld=>?_)
    ·exact (aB Q5.out 0).trans rfl
    clear HK K S8 K8 Q8 M8 R8 B8 k4 z4;simp at K5;refine wpAnyH_done (by kernel_rfl) ?_ _;go_end0
    exact⟨rfl,⟨_,_,K5.out,Q5.out,M5.out,R5.out⟩,S5.out,B5.out⟩
theorem isW_false {l:List Tok} : qC false l=true↔(cur l).kind=1:=by simp [qC]
theorem Ks (P nb pb lo:Nat) (L:List Tok) (ok:Nat→Prop) (C:C1 P nb pb lo ok) (kd at_:Int) (g:Nat) :
  Ed 192 (.pointer (some ⟨nb,0,none⟩)) (.pointer (some ⟨pb,0,none⟩)) (Gp P nb pb lo ok kd at_) (fun s=>s.1.length) 6 gY lo P L g:=by
 rintro⟨ns,ks⟩ l w hf hc hlw H ⟨nv,kv,h1,h2,h3,h4⟩;simp only at hc h3 h4;unfold gY;by_cases hw:qC false l=true
 ·rw [if_pos hw];cases l with
  | nil=>exact absurd rfl H.out.ne
  | cons t q=>exact On P nb pb lo L ok C kd at_ ns ks kv nv w (by omega) hlw t q (aA (isW_false.1 hw)) H (aA h1) (aA h2) (aA h3) (aA h4)
 ·rw [if_neg hw];exact PO P nb pb lo L ok C kd at_ ns ks kv nv w (by omega) hlw l (aA (by simpa using hw)) H (aA h1) (aA h2) (aA h3) (aA h4)
theorem Mw (g:Nat) (s s':List ByteArray×List Nd) (l l':List Tok) (hne:l≠[]) (h:gY g s l=.ok s' l'):l'.length+1≤l.length∧s'.1.length=s.1.length+1:=by
 unfold gY at h;split at h
 ·injection h with h1 h2;subst h1 h2;cases l with
  | nil=>exact absurd rfl hne
  | cons t q=>simp
 ·cases h
end Go.Proofs.YtdnnmjhfidimcaaGreatDoor
