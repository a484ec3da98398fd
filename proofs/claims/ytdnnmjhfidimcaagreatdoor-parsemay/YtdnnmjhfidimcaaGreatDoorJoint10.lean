/- One token, as the program reads it. One token, as the program reads it: words, numbers, strings, whatever comes. -/
import Derived.Test.YtdnnmjhfidimcaaGreatDoorJoint8
import Derived.Test.YtdnnmjhfidimcaaGreatDoorTxtTaken
import Derived.Test.YtdnnmjhfidimcaaGreatDoorJoint5
import Derived.Test.YtdnnmjhfidimcaaGreatDoorJoint2
namespace Go.Proofs.YtdnnmjhfidimcaaGreatDoor
set_option maxRecDepth 100000
set_option maxHeartbeats 800000
open Go.RowKit
theorem oS {a b:World} (k:Below a.heap.size a b) {p:Addr} (h:p.block<a.heap.size) {v:Value} (c:a.cell? p=some v):b.cell? p=some v:=(k.cell h).trans c
theorem dJ {g:Nat} {L:List (List UInt8)} {a b:World} (h:iZ g L a) (hg:g<a.heap.size) (k:Below a.heap.size a b):iZ g L b:=fun i hi=>oS k hg (h i hi)
theorem pH {fn:Func} {t u v:Tmp} (h:fn.results=#[.cell t 67,.tmp u,.tmp v]) {tmps:Array Value} {g:Nat} {w:World} {x y z q:Value} (ht:tmps.getD t undef=.pointer (some ⟨g,0,none⟩))
  (c:w.cell? ⟨g,0,none⟩=some x∧w.cell? ⟨g,1,none⟩=some y∧w.cell? ⟨g,2,none⟩=some z∧w.cell? ⟨g,3,none⟩=some q) :
  (results fn tmps).run Tryz.prog w=.ok (.tuple #[.agg #[x,y,z,q],tmps.getD u undef,tmps.getD v undef]) w:=by
 rw [Array.getD_eq_getD_getElem?] at ht;simp [results,h,ht,go_sem,asAddr,c.1,c.2.1,c.2.2.1,c.2.2.2]
def BR (g:Nat) (w:World):Prop:=
 g<w.heap.size∧w.cell? ⟨g,0,none⟩=some (.int .i64 0)∧w.cell? ⟨g,1,none⟩=some (.string ⟨#[]⟩)∧w.cell? ⟨g,2,none⟩=some (.int .i64 0)∧w.cell? ⟨g,3,none⟩=some (.int .i64 0)∧
  w.frozen? ⟨g,0,none⟩=false∧w.frozen? ⟨g,1,none⟩=false∧w.frozen? ⟨g,2,none⟩=false∧w.frozen? ⟨g,3,none⟩=false
theorem jF {g:Nat} {a b:World} (h:BR g a) (k:Below a.heap.size a b):BR g b:=by
 obtain⟨h0,h1,h2,h3,h4,f0,f1,f2,f3⟩:=h;exact⟨Nat.lt_of_lt_of_le h0 k.size,oS k h0 h1,oS k h0 h2,oS k h0 h3,oS k h0 h4,(k.frozen (p:=⟨g,0,none⟩) h0).trans f0,(k.frozen (p:=⟨g,1,none⟩) h0).trans f1,
  (k.frozen (p:=⟨g,2,none⟩) h0).trans f2,(k.frozen (p:=⟨g,3,none⟩) h0).trans f3⟩
theorem pW (w:World) {g:Nat} (hg:g=w.heap.size) (t:TypeId):BR g (w.alloc (Obj.cells #[.int .i64 0,.string ⟨#[]⟩,.int .i64 0,.int .i64 0] t)):=by
 subst hg;refine⟨by simp,by simp,by simp,by simp,by simp,by simp,by simp,by simp,by simp⟩
theorem vK {B g:Nat} {w w1:World} (h:Below B w w1) (hg:B≤g) (x y z q:Value) :
  Below B w ((((w1.setCell ⟨g,0,none⟩ x).setCell ⟨g,1,none⟩ y).setCell ⟨g,2,none⟩ z).setCell ⟨g,3,none⟩ q):=
 (((h.setCell hg _).setCell hg _).setCell hg _).setCell hg _
theorem fU {g:Nat} {w1:World} (h:BR g w1) (x y z q:Value) :
  ((((w1.setCell ⟨g,0,none⟩ x).setCell ⟨g,1,none⟩ y).setCell ⟨g,2,none⟩ z).setCell ⟨g,3,none⟩ q).cell? ⟨g,0,none⟩=some x∧
  ((((w1.setCell ⟨g,0,none⟩ x).setCell ⟨g,1,none⟩ y).setCell ⟨g,2,none⟩ z).setCell ⟨g,3,none⟩ q).cell? ⟨g,1,none⟩=some y∧
  ((((w1.setCell ⟨g,0,none⟩ x).setCell ⟨g,1,none⟩ y).setCell ⟨g,2,none⟩ z).setCell ⟨g,3,none⟩ q).cell? ⟨g,2,none⟩=some z∧
  ((((w1.setCell ⟨g,0,none⟩ x).setCell ⟨g,1,none⟩ y).setCell ⟨g,2,none⟩ z).setCell ⟨g,3,none⟩ q).cell? ⟨g,3,none⟩=some q:=by
 obtain⟨h0,h1,h2,h3,h4,f0,f1,f2,f3⟩:=h;refine⟨?_,?_,?_,?_⟩<;>simp [go_sem,h1,h2,h3,h4]
theorem KO (s:ByteArray) (k n:Nat):s.extract k (k+n)=⟨((s.data.toList.drop k).take n).toArray⟩:=by
 have h:=pT s k (k+n);rw [Nat.add_sub_cancel_left] at h;rw [← h]
def TokOut.ending (o:TokOut):Ending:=.returned (.tuple #[o.1.val,.int .i64 o.2.1,.int .i64 o.2.2])
theorem Ez (s:ByteArray) (hs:s.size≤1000000) (k:Nat) (hk:k<s.size) (w:World) (h0:0<w.heap.size) (SG:Hid (iZ 0 sgnL w)) :
  Calls Tryz.prog 96 #[.string s,.int .i64 k] w fun e w'=>e=TokOut.ending (nQ (s.data.toList.drop k) k)∧Below w.heap.size w w':=by
 have b0:=aA ((Below.refl w.heap.size w).alloc (Nat.le_refl _) (.cells #[.int .i64 0,.string ⟨#[]⟩,.int .i64 0,.int .i64 0] 67));have SG1:=aA (dJ SG.out h0 b0.out);have S4:=aA (pW w rfl 67);clear SG;have hl:(signL (s.data.toList.drop k)).length≤2:=by
  have:∀ L:List (List UInt8),(∀ x∈L,x.length≤2)→∀ l,(gB L l).length≤2:=by
   intro L;induction L with
   | nil=>intro _ l;simp [gB]
   | cons x L ih=>
    intro hx l;unfold gB;split
    ·exact hx x (by simp)
    ·exact ih (fun y hy=>hx y (by simp [hy])) l
  exact this sgnL (by decide) _
 by_cases hz:signL (s.data.toList.drop k)=[]
 ·have H:=aA (show nQ (s.data.toList.drop k) k=(Tok.zero,k,11) by unfold nQ;rw [if_pos hz]);have Hz:=aA hz;clear hz;go_enter Tryz.func96,Tryz.ntmps96;go_wp2_with fail;refine (tT _ _ SG1).mono ?_;rintro e w1 ⟨rfl,hw⟩;rw [hw] at b0 S4;have⟨g0,c0,c1,c2,c3,f0,f1,f2,f3⟩:=S4.out;clear hw SG1;rw [pU,Hz.out];go_wp2;rw [H.out];exact bodyPost_ret (pH rfl rfl (fU S4.out _ _ _ _)) rfl ⟨rfl,vK b0.out (Nat.le_refl _) _ _ _ _⟩
 ·have H:=aA (show nQ (s.data.toList.drop k) k=(⟨5,⟨(signL (s.data.toList.drop k)).toArray⟩,0,k⟩,k+(signL (s.data.toList.drop k)).length,0) by unfold nQ;rw [if_neg hz]);have Hz:(signL (s.data.toList.drop k)).isEmpty=false:=by
   cases hq:signL (s.data.toList.drop k) with
   | nil=>exact absurd hq hz
   | cons=>rfl
  clear hz;go_enter Tryz.func96,Tryz.ntmps96;go_wp2_with fail;refine (tT _ _ SG1).mono ?_;rintro e w1 ⟨rfl,hw⟩;rw [hw] at b0 S4;have⟨g0,c0,c1,c2,c3,f0,f1,f2,f3⟩:=S4.out;clear hw SG1;rw [pU];generalize signL (s.data.toList.drop k)=x at *
  go_wp2;rw [H.out];exact bodyPost_ret (pH rfl rfl (fU S4.out _ _ _ _)) rfl ⟨rfl,vK b0.out (Nat.le_refl _) _ _ _ _⟩
def Qy (g:Nat) (x y z q:Value) (w:World):Prop:=
 g<w.heap.size∧w.cell? ⟨g,0,none⟩=some x∧w.cell? ⟨g,1,none⟩=some y∧w.cell? ⟨g,2,none⟩=some z∧w.cell? ⟨g,3,none⟩=some q∧
  w.frozen? ⟨g,0,none⟩=false∧w.frozen? ⟨g,1,none⟩=false∧w.frozen? ⟨g,2,none⟩=false∧w.frozen? ⟨g,3,none⟩=false
theorem wP (w:World) (x y z q:Value) (t:TypeId):Qy w.heap.size x y z q (w.alloc (Obj.cells #[x,y,z,q] t)):=by
 refine⟨by simp,by simp,by simp,by simp,by simp,by simp,by simp,by simp,by simp⟩
theorem GJ (l:List UInt8):(takeOut l).2.1≤l.length:=by
 have hb:=xD l;rcases hq:takeOut l with ⟨x,n,e⟩
 rw [hq] at hb;simp only at hb ⊢;rcases hb with h | ⟨_,_,h3⟩
 ·subst h;exact (uV hq).2.1
 ·exact h3
theorem CR (s:ByteArray) (hs:s.size≤1000000) (k:Nat) (hk:k<s.size) (w:World) :
  Calls Tryz.prog 95 #[.string s,.int .i64 k] w fun e w'=>e=TokOut.ending (mR (s.data.toList.drop k) k)∧Below w.heap.size w w':=by
 have b0:=aA ((Below.refl w.heap.size w).alloc (Nat.le_refl _) (.cells #[.int .i64 0,.string ⟨#[]⟩,.int .i64 0,.int .i64 0] 67));have S0:=aA (pW w rfl 67);have hn:(takeOut (s.data.toList.drop k)).2.1≤1000000:=by
  have:=GJ (s.data.toList.drop k);rw [List.length_drop,cF] at this;omega
 have hb:=xD (s.data.toList.drop k);have hq:mR (s.data.toList.drop k) k=mR (s.data.toList.drop k) k:=rfl;conv at hq=>rhs;unfold mR
 have Ht:=aA (show takeOut (s.extract k s.size).data.toList=takeOut (s.data.toList.drop k) by rw [pU]);have hes:(s.extract k s.size).size≤1000000:=by rw [Eu s (Nat.le_refl _)];omega
 generalize takeOut (s.data.toList.drop k)=o at *
 obtain⟨x,n,e⟩:=o;simp only at hn hb hq;rcases hb with rfl | ⟨rfl,_,_⟩
 ·by_cases hx:256<x.length
  ·have H:=aA (hq.trans (by rw [if_pos rfl,if_pos hx]));clear hq;go_enter Tryz.func95,Tryz.ntmps95;go_wp2_with fail;refine (uF _ hes _).mono ?_;rintro e w1 ⟨rfl,b1⟩;rw [Ht.out];have B:=aA (aH b0.out (Nat.le_refl _) b1);have S4:=aA (jF S0.out b1);have⟨g0,c0,c1,c2,c3,f0,f1,f2,f3⟩:=S4.out;clear b1 b0 S0 Ht;go_wp2;rw [H.out];exact bodyPost_ret (pH rfl rfl (fU S4.out _ _ _ _)) rfl ⟨rfl,vK B.out (Nat.le_refl _) _ _ _ _⟩
  ·have H:=aA (hq.trans (by rw [if_pos rfl,if_neg hx]));clear hq;go_enter Tryz.func95,Tryz.ntmps95;go_wp2_with fail;refine (uF _ hes _).mono ?_;rintro e w1 ⟨rfl,b1⟩;rw [Ht.out];have B:=aA (aH b0.out (Nat.le_refl _) b1);have S4:=aA (jF S0.out b1);have⟨g0,c0,c1,c2,c3,f0,f1,f2,f3⟩:=S4.out;clear b1 b0 S0 Ht;go_wp2;rw [H.out];exact bodyPost_ret (pH rfl rfl (fU S4.out _ _ _ _)) rfl ⟨rfl,vK B.out (Nat.le_refl _) _ _ _ _⟩
 ·have H:=aA (hq.trans (by rw [if_neg (by decide)]));clear hq;go_enter Tryz.func95,Tryz.ntmps95;go_wp2_with fail;refine (uF _ hes _).mono ?_;rintro e w1 ⟨rfl,b1⟩;rw [Ht.out];have B:=aA (aH b0.out (Nat.le_refl _) b1);have S4:=aA (jF S0.out b1);have⟨g0,c0,c1,c2,c3,f0,f1,f2,f3⟩:=S4.out;clear b1 b0 S0 Ht;go_wp2;rw [H.out];exact bodyPost_ret (pH rfl rfl (fU S4.out _ _ _ _)) rfl ⟨rfl,vK B.out (Nat.le_refl _) _ _ _ _⟩
theorem EA (l:List UInt8):(fA l).2=0∨(fA l).2=10∨(fA l).2=11:=by
 unfold fA wD;split
 ·right;right;rfl
 ·split
  ·right;left;rfl
  ·left;rfl
theorem Bk (s:ByteArray) (hs:s.size≤1000000) (k:Nat) (hk:k<s.size) (w:World) :
  Calls Tryz.prog 94 #[.string s,.int .i64 k] w fun e w'=>e=TokOut.ending (kM (s.data.toList.drop k) k)∧Below w.heap.size w w':=by
 have b0:=aA ((Below.refl w.heap.size w).alloc (Nat.le_refl _) (.cells #[.int .i64 0,.string ⟨#[]⟩,.int .i64 0,.int .i64 0] 67));have S0:=aA (pW w rfl 67);have hm1:=oJ bX s k;have hm2:=uX (p:=bX) (Nat.le_of_lt hk);have hq:kM (s.data.toList.drop k) k=kM (s.data.toList.drop k) k:=rfl;conv at hq=>rhs;unfold kM
 have hto:k+jW bX (s.data.toList.drop k)=runTo bX s k:=rfl;have hcut:(s.data.toList.drop k).take (jW bX (s.data.toList.drop k))=(s.extract k (runTo bX s k)).data.toList:=by
  rw [pT];unfold runTo;rw [Nat.add_sub_cancel_left]
 rw [hcut,hto] at hq;have hxs:(s.extract k (runTo bX s k)).size≤4611686018427387903:=by rw [Eu s hm2];omega
 generalize hm:runTo bX s k=m at *
 have Hm:=aA hm;clear hm hcut hto;have he:=EA (s.extract k m).data.toList;have hbd:=rV (s.extract k m).data.toList;generalize hr:fA (s.extract k m).data.toList=r at *
 obtain⟨n,e⟩:=r;have Hr:=aA hr;clear hr;simp only at he hq hbd;obtain⟨n0,n1⟩:=hbd;rcases (show e=0∨e≠0 from by omega) with rfl | hne
 ·have H:=aA (hq.trans (by rw [if_pos rfl]));clear hq he;go_enter Tryz.func94,Tryz.ntmps94;go_wp2_with fail;refine (sA s hs k (Nat.le_of_lt hk) _).mono ?_;rintro e w0 ⟨rfl,hw⟩;rw [hw] at b0 S0;clear hw;rw [Hm.out];go_wp2_with fail;refine (Ao _ hxs _).mono ?_;rintro e w1 ⟨rfl,b1⟩;rw [Hr.out];have B1:=aA (aH b0.out (Nat.le_refl _) b1);have S1:=aA (jF S0.out b1);clear b1 b0 S0;go_wp2_with fail;refine (vJ n (by omega) (by omega) _).mono ?_;rintro e w2 ⟨rfl,b2⟩;have B:=aA (aH B1.out (Nat.le_refl _) b2);have S4:=aA (jF S1.out b2);have⟨g0,c0,c1,c2,c3,f0,f1,f2,f3⟩:=S4.out;clear b2 B1 S1;go_wp2;rw [H.out];exact bodyPost_ret (pH rfl rfl (fU S4.out _ _ _ _)) rfl ⟨rfl,vK B.out (Nat.le_refl _) _ _ _ _⟩
 ·have H:=aA (hq.trans (by rw [if_neg hne]));have en:(e != 0)=true:=by rw [bne_iff_ne];exact hne
  clear hq hne;go_enter Tryz.func94,Tryz.ntmps94;go_wp2_with fail;refine (sA s hs k (Nat.le_of_lt hk) _).mono ?_;rintro e w0 ⟨rfl,hw⟩;rw [hw] at b0 S0;clear hw;rw [Hm.out];go_wp2_with fail;refine (Ao _ hxs _).mono ?_;rintro e w1 ⟨rfl,b1⟩;rw [Hr.out];have B:=aA (aH b0.out (Nat.le_refl _) b1);have S4:=aA (jF S0.out b1);have⟨g0,c0,c1,c2,c3,f0,f1,f2,f3⟩:=S4.out;clear b1 b0 S0;go_wp2;rw [H.out];exact bodyPost_ret (pH rfl rfl (fU S4.out _ _ _ _)) rfl ⟨rfl,vK B.out (Nat.le_refl _) _ _ _ _⟩
theorem KP {g g':Nat} {w:World} (h:BR g w) (hne:g≠g') (v:Value):BR g (w.setCell ⟨g',0,none⟩ v):=by
 obtain⟨h0,h1,h2,h3,h4,f0,f1,f2,f3⟩:=h;refine⟨by simpa [World.setCell] using h0,?_,?_,?_,?_,?_,?_,?_,?_⟩
 ·rw [World.cell?_setCell_other (h:=by intro h;cases h;exact hne rfl)];exact h1
 ·rw [World.cell?_setCell_other (h:=by simp)];exact h2
 ·rw [World.cell?_setCell_other (h:=by simp)];exact h3
 ·rw [World.cell?_setCell_other (h:=by simp)];exact h4
 ·simp [f0]
 ·simp [f1]
 ·simp [f2]
 ·simp [f3]
theorem EB (s:ByteArray) (hs:s.size≤1000000) (k:Nat) (hk:k<s.size) (w:World) :
  Calls Tryz.prog 92 #[.string s,.int .i64 k] w fun e w'=>e=TokOut.ending (jY (s.data.toList.drop k) k)∧Below w.heap.size w w':=by
 have b0:=aA ((Below.refl w.heap.size w).alloc (Nat.le_refl _) (.cells #[.int .i64 0,.string ⟨#[]⟩,.int .i64 0,.int .i64 0] 67));have S0:=aA (pW w rfl 67);have hm1:=oJ fN s k;have hm2:=uX (p:=fN) (Nat.le_of_lt hk);have hq:jY (s.data.toList.drop k) k=jY (s.data.toList.drop k) k:=rfl;conv at hq=>rhs;unfold jY
 have hto:k+jW fN (s.data.toList.drop k)=runTo fN s k:=rfl;have hcb:(⟨((s.data.toList.drop k).take (jW fN (s.data.toList.drop k))).toArray⟩:ByteArray)=s.extract k (runTo fN s k):=(KO s k _).symm;have hcut:(s.data.toList.drop k).take (jW fN (s.data.toList.drop k))=(s.extract k (runTo fN s k)).data.toList:=by
  rw [pT];unfold runTo;rw [Nat.add_sub_cancel_left]
 rw [hcb,hcut,hto] at hq;generalize hm:runTo fN s k=m at *
 have Hm:=aA hm;clear hm hcut hto hcb;cases hkey:jG (s.extract k m).data.toList with
 | true=>
  have H:=aA (hq.trans (by rw [hkey,if_pos rfl]));have Hk:=aA hkey;clear hq hkey;go_enter Tryz.func92,Tryz.ntmps92;go_wp2_with fail;refine (pK s hs k (Nat.le_of_lt hk) _).mono ?_;rintro e w0 ⟨rfl,hw⟩;rw [hw] at b0 S0;clear hw;rw [Hm.out];have b1:=(Below.refl w0.heap.size w0).alloc (Nat.le_refl _) (.cells #[.int .i64 1,.string (s.extract k m),.int .i64 0,.int .i64 k] 67);have B1:=aA (aH b0.out (Nat.le_refl _) b1);have S1:=aA (jF S0.out b1);have T1:=aA (wP w0 (.int .i64 1) (.string (s.extract k m)) (.int .i64 0) (.int .i64 k) 67);have gl:w.heap.size<w0.heap.size:=S0.out.1;clear b1 b0 S0;go_wp2_with fail;refine (pA _ _).mono ?_;rintro e w1 ⟨rfl,hw⟩;rw [hw] at B1 S1 T1;clear hw;rw [Hk.out];generalize w0.heap.size=g1 at *
  have⟨g0,c0,c1,c2,c3,f0,f1,f2,f3⟩:=S1.out;have⟨g0',c0',c1',c2',c3',f0',f1',f2',f3'⟩:=T1.out;have S2:=aA (KP S1.out (g':=g1) (by omega) (.int .i64 2));clear S1 T1;go_wp2;rw [H.out];exact bodyPost_ret (pH rfl rfl (fU S2.out _ _ _ _)) rfl ⟨rfl,vK (B1.out.setCell (show w.heap.size≤g1 by omega) _) (Nat.le_refl _) _ _ _ _⟩
 | false=>
  cases hnm:nameB (s.extract k m).data.toList with
  | true=>
   have H:=aA (hq.trans (by rw [hkey,if_neg (by decide),hnm,if_pos rfl]));have Hk:=aA hkey;have Hn:=aA hnm;clear hq hkey hnm;go_enter Tryz.func92,Tryz.ntmps92;go_wp2_with fail;refine (pK s hs k (Nat.le_of_lt hk) _).mono ?_;rintro e w0 ⟨rfl,hw⟩;rw [hw] at b0 S0;clear hw;rw [Hm.out];have b1:=(Below.refl w0.heap.size w0).alloc (Nat.le_refl _) (.cells #[.int .i64 1,.string (s.extract k m),.int .i64 0,.int .i64 k] 67);have B1:=aA (aH b0.out (Nat.le_refl _) b1);have S1:=aA (jF S0.out b1);have T1:=aA (wP w0 (.int .i64 1) (.string (s.extract k m)) (.int .i64 0) (.int .i64 k) 67);have gl:w.heap.size<w0.heap.size:=S0.out.1;clear b1 b0 S0;go_wp2_with fail;refine (pA _ _).mono ?_;rintro e w1 ⟨rfl,hw⟩;rw [hw] at B1 S1 T1;clear hw;rw [Hk.out];generalize w0.heap.size=g1 at *
   have⟨g0,c0,c1,c2,c3,f0,f1,f2,f3⟩:=S1.out;have⟨g0',c0',c1',c2',c3',f0',f1',f2',f3'⟩:=T1.out;go_wp2_with fail;refine (iP _ _).mono ?_;rintro e w2 ⟨rfl,rfl⟩;rw [Hn.out];go_wp2;rw [H.out];exact bodyPost_ret (pH rfl rfl (fU S1.out _ _ _ _)) rfl ⟨rfl,vK B1.out (Nat.le_refl _) _ _ _ _⟩
  | false=>
   have H:=aA (hq.trans (by rw [hkey,if_neg (by decide),hnm,if_neg (by decide)]));have Hk:=aA hkey;have Hn:=aA hnm;clear hq hkey hnm;go_enter Tryz.func92,Tryz.ntmps92;go_wp2_with fail;refine (pK s hs k (Nat.le_of_lt hk) _).mono ?_;rintro e w0 ⟨rfl,hw⟩;rw [hw] at b0 S0;clear hw;rw [Hm.out];have b1:=(Below.refl w0.heap.size w0).alloc (Nat.le_refl _) (.cells #[.int .i64 1,.string (s.extract k m),.int .i64 0,.int .i64 k] 67);have B1:=aA (aH b0.out (Nat.le_refl _) b1);have S1:=aA (jF S0.out b1);have T1:=aA (wP w0 (.int .i64 1) (.string (s.extract k m)) (.int .i64 0) (.int .i64 k) 67);have gl:w.heap.size<w0.heap.size:=S0.out.1;clear b1 b0 S0;go_wp2_with fail;refine (pA _ _).mono ?_;rintro e w1 ⟨rfl,hw⟩;rw [hw] at B1 S1 T1;clear hw;rw [Hk.out];generalize w0.heap.size=g1 at *
   have⟨g0,c0,c1,c2,c3,f0,f1,f2,f3⟩:=S1.out;have⟨g0',c0',c1',c2',c3',f0',f1',f2',f3'⟩:=T1.out;go_wp2_with fail;refine (iP _ _).mono ?_;rintro e w2 ⟨rfl,rfl⟩;rw [Hn.out];go_wp2;rw [H.out];exact bodyPost_ret (pH rfl rfl (fU S1.out _ _ _ _)) rfl ⟨rfl,vK B1.out (Nat.le_refl _) _ _ _ _⟩
theorem uG (s:ByteArray) (hs:s.size≤1000000) (k:Nat) (hk:k<s.size) (w:World) (h0:0<w.heap.size) (SG:Hid (iZ 0 sgnL w)) :
  Calls Tryz.prog 63 #[.string s,.int .i64 k] w fun e w'=>e=TokOut.ending (cO (s.data.toList.drop k) k)∧Below w.heap.size w w':=by
 have b0:=aA ((Below.refl w.heap.size w).alloc (Nat.le_refl _) (.cells #[.int .i64 0,.string ⟨#[]⟩,.int .i64 0,.int .i64 0] 67));have SG1:=aA (dJ SG.out h0 b0.out);have S0:=aA (pW w rfl 67);have h1:0<(w.alloc (.cells #[.int .i64 0,.string ⟨#[]⟩,.int .i64 0,.int .i64 0] 67)).heap.size:=by simp
 clear SG;have hq:cO (s.data.toList.drop k) k=(if bW s[k].toNat then jY (s.data.toList.drop k) k else if bX s[k].toNat then kM (s.data.toList.drop k) k else if s[k].toNat=34 then mR (s.data.toList.drop k) k else nQ (s.data.toList.drop k) k):=by
  rw [dU s k hk];rfl
 cases hl:bW s[k].toNat with
 | true=>
  have H:=aA (hq.trans (by rw [hl,if_pos rfl]));have Hl:=aA hl;clear hq hl SG1;go_enter Tryz.func63,Tryz.ntmps63;go_wp2_with fail;refine (jU _ _).mono ?_;rintro e w0 ⟨rfl,hw⟩;rw [hw] at b0 S0 h1;clear hw;rw [Hl.out];go_wp2_with fail;refine (EB s hs k hk _).mono ?_;rintro e w1 ⟨rfl,b1⟩;have B:=aA (aH b0.out (Nat.le_refl _) b1);have S4:=aA (jF S0.out b1);have⟨g0,c0,c1,c2,c3,f0,f1,f2,f3⟩:=S4.out;clear b1 b0 S0;generalize ho:jY (s.data.toList.drop k) k=o at *
  obtain⟨⟨t0,t1,t2,t3⟩,n,er⟩:=o;unfold TokOut.ending Tok.val;go_wp2;rw [H.out];exact bodyPost_ret (pH rfl rfl (fU S4.out _ _ _ _)) rfl ⟨rfl,vK B.out (Nat.le_refl _) _ _ _ _⟩
 | false=>
  cases hd:bX s[k].toNat with
  | true=>
   have H:=aA (hq.trans (by rw [hl,if_neg (by decide),hd,if_pos rfl]));have Hl:=aA hl;have Hd:=aA hd;clear hq hl hd SG1;go_enter Tryz.func63,Tryz.ntmps63;go_wp2_with fail;refine (jU _ _).mono ?_;rintro e w0 ⟨rfl,hw⟩;rw [hw] at b0 S0 h1;clear hw;rw [Hl.out];go_wp2_with fail;refine (kO _ _).mono ?_;rintro e w00 ⟨rfl,rfl⟩;rw [Hd.out];go_wp2_with fail;refine (Bk s hs k hk _).mono ?_;rintro e w1 ⟨rfl,b1⟩;have B:=aA (aH b0.out (Nat.le_refl _) b1);have S4:=aA (jF S0.out b1);have⟨g0,c0,c1,c2,c3,f0,f1,f2,f3⟩:=S4.out;clear b1 b0 S0;generalize ho:kM (s.data.toList.drop k) k=o at *
   obtain⟨⟨t0,t1,t2,t3⟩,n,er⟩:=o;unfold TokOut.ending Tok.val;go_wp2;rw [H.out];exact bodyPost_ret (pH rfl rfl (fU S4.out _ _ _ _)) rfl ⟨rfl,vK B.out (Nat.le_refl _) _ _ _ _⟩
  | false=>
   by_cases h34:s[k].toNat=34
   ·have H:=aA (hq.trans (by rw [hl,if_neg (by decide),hd,if_neg (by decide),if_pos h34]));have Hl:=aA hl;have Hd:=aA hd;have e34:((s[k].toNat:Int)==34)=true:=beq_iff_eq.2 (by omega);clear hq hl hd SG1 h34;go_enter Tryz.func63,Tryz.ntmps63;go_wp2_with fail;refine (jU _ _).mono ?_;rintro e w0 ⟨rfl,hw⟩;rw [hw] at b0 S0 h1;clear hw;rw [Hl.out];go_wp2_with fail;refine (kO _ _).mono ?_;rintro e w00 ⟨rfl,rfl⟩;rw [Hd.out];go_wp2_with fail;refine (CR s hs k hk _).mono ?_;rintro e w1 ⟨rfl,b1⟩;have B:=aA (aH b0.out (Nat.le_refl _) b1);have S4:=aA (jF S0.out b1);have⟨g0,c0,c1,c2,c3,f0,f1,f2,f3⟩:=S4.out;clear b1 b0 S0;generalize ho:mR (s.data.toList.drop k) k=o at *
    obtain⟨⟨t0,t1,t2,t3⟩,n,er⟩:=o;unfold TokOut.ending Tok.val;go_wp2;rw [H.out];exact bodyPost_ret (pH rfl rfl (fU S4.out _ _ _ _)) rfl ⟨rfl,vK B.out (Nat.le_refl _) _ _ _ _⟩
   ·have H:=aA (hq.trans (by rw [hl,if_neg (by decide),hd,if_neg (by decide),if_neg h34]));have Hl:=aA hl;have Hd:=aA hd;have e34:((s[k].toNat:Int)==34)=false:=beq_eq_false_iff_ne.2 (by omega);clear hq hl hd h34;go_enter Tryz.func63,Tryz.ntmps63;go_wp2_with fail;refine (jU _ _).mono ?_;rintro e w0 ⟨rfl,hw⟩;rw [hw] at b0 S0 h1 SG1;clear hw;rw [Hl.out];go_wp2_with fail;refine (kO _ _).mono ?_;rintro e w00 ⟨rfl,rfl⟩;rw [Hd.out];go_wp2_with fail;refine (Ez s hs k hk _ h1 SG1).mono ?_;rintro e w1 ⟨rfl,b1⟩;have B:=aA (aH b0.out (Nat.le_refl _) b1);have S4:=aA (jF S0.out b1);have⟨g0,c0,c1,c2,c3,f0,f1,f2,f3⟩:=S4.out;clear b1 b0 S0;generalize ho:nQ (s.data.toList.drop k) k=o at *
    obtain⟨⟨t0,t1,t2,t3⟩,n,er⟩:=o;unfold TokOut.ending Tok.val;go_wp2;rw [H.out];exact bodyPost_ret (pH rfl rfl (fU S4.out _ _ _ _)) rfl ⟨rfl,vK B.out (Nat.le_refl _) _ _ _ _⟩
end Go.Proofs.YtdnnmjhfidimcaaGreatDoor
