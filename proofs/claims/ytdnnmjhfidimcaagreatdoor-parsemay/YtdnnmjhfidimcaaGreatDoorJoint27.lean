/- Signs, built-in calls, and whether all of some nodes or names are right. What is asked of a node of each kind. -/
import Derived.Test.YtdnnmjhfidimcaaGreatDoorJoint11
import Derived.Test.YtdnnmjhfidimcaaGreatDoorJoint12
import Derived.Test.YtdnnmjhfidimcaaGreatDoorJoint6
import Derived.Test.YtdnnmjhfidimcaaGreatDoorJoint2
namespace Go.Proofs.YtdnnmjhfidimcaaGreatDoor
open Go.RowKit
theorem nE (s:ByteArray) (w:World) :
  Calls Tryz.prog 120 #[.string s] w fun e w'=>e=.returned (.bool (properB s))∧w=w':=by
 have H:=aA (show properB s=(nameB s.data.toList&&!jG s.data.toList) from rfl);go_enter Tryz.func120,Tryz.ntmps120;go_wp2_with fail;refine (iP s _).mono ?_;rintro e w1 ⟨rfl,rfl⟩;generalize nameB s.data.toList=nb at *
 cases nb
 ·go_wp2_with fail;go_ret;exact⟨by rw [H.out];rfl,rfl⟩
 ·go_wp2_with fail;refine (pA s _).mono ?_;rintro e w1 ⟨rfl,rfl⟩;go_wp2_with fail;go_ret;exact⟨by rw [H.out];rfl,rfl⟩
theorem Hu (s:ByteArray) (g:Nat) (w:World) (hg:w.cell? ⟨g,0,none⟩=some (.func (.func 122) #[] #[])) :
  Calls Tryz.prog 167 #[.string s,.pointer (some ⟨g,0,none⟩)] w fun e w'=>e=.returned (.bool (!dH s))∧w=w':=by
 have H:=aA (show dH s=nameB s.data.toList from rfl);go_enter Tryz.func167,Tryz.ntmps167;go_wp2_with fail;refine (iP s _).mono ?_;rintro e w1 ⟨rfl,rfl⟩;go_wp2_with fail;go_ret;exact⟨by rw [H.out];rfl,rfl⟩
theorem Dm (s:ByteArray) (g:Nat) (w:World) (hg:w.cell? ⟨g,0,none⟩=some (.func (.func 120) #[] #[])) :
  Calls Tryz.prog 167 #[.string s,.pointer (some ⟨g,0,none⟩)] w fun e w'=>e=.returned (.bool (!properB s))∧w=w':=by
 go_enter Tryz.func167,Tryz.ntmps167;go_wp2_with fail;refine (nE s _).mono ?_;rintro e w1 ⟨rfl,rfl⟩;go_wp2_with fail;go_ret;exact⟨rfl,rfl⟩
theorem IY {α:Type} (P:α→Bool) (l:List α):l.all P=!l.any fun x=>!P x:=by
 induction l with
 | nil=>rfl
 | cons x r ih=>rw [List.all_cons,List.any_cons,ih];cases P x<;>simp
theorem EU (B:Nat) (w:World) (v:Value) (l:List ByteArray) (m:Nat) (hB:B≤w.heap.size) (h1:Hid (cA B v l w)) (hc:l.length≤1000000) :
  Calls Tryz.prog 152 #[v,.int .i64 m,.func (.func 122) #[] #[]] w fun e w'=>e=.returned (.bool (decide (l.length≤m)&&l.all dH))∧Below w.heap.size w w':=by
 obtain⟨ao,cap,rfl,_⟩:=fS h1.out;have hal:=(Below.refl w.heap.size w).alloc (Nat.le_refl _) (.cells #[.func (.func 122) #[] #[]] 33);have AL:=aA hal;have S1:=aA (eB h1.out (hal.mono hB));have hmf:∀ (fn:Fn) (first cap:Array Value) (w:World),(Instr.makeFunc fn first cap).run Tryz.prog w=.ok (.func fn first cap) w:=fun _ _ _ _=>rfl
 by_cases hl:l.length≤m
 ·have d:decide ((l.length:Int)≤(m:Int))=true:=decide_eq_true (by omega);have H:=aA (show (decide (l.length≤m)&&l.all dH)=!l.any fun x=>!dH x by rw [decide_eq_true hl,Bool.true_and,IY]);have CL:Hid (IX (fun x=>!dH x) (.pointer (some ⟨w.heap.size,0,none⟩)) l (w.alloc (.cells #[.func (.func 122) #[] #[]] 33))):=by
   intro x hx w' hb;exact (Hu x w.heap.size w' (cN hb (by simp) (by simp))).mono fun e w2 ⟨h1,h2⟩=>⟨h1,h2▸Below.refl _ _⟩
  clear hal h1 d;go_enter Tryz.func152,Tryz.ntmps152;go_wp2_with fail;refine (vV (fun x=>!dH x) B _ _ _ l (by simp;omega) S1 hc CL).mono ?_;rintro e w1 ⟨rfl,b1⟩;have B1:=aA (aH AL.out (by simp) b1);clear b1 AL S1 CL;go_wp2_with fail;go_ret;exact⟨by rw [H.out];rfl,B1.out⟩
 ·have d:decide ((l.length:Int)≤(m:Int))=false:=decide_eq_false (by omega);have H:=aA (show (decide (l.length≤m)&&l.all dH)=false by rw [decide_eq_false hl,Bool.false_and]);clear hal h1 d;go_enter Tryz.func152,Tryz.ntmps152;go_wp2_with fail;go_ret;exact⟨by rw [H.out];rfl,AL.out⟩
theorem Bo (B:Nat) (w:World) (v:Value) (l:List ByteArray) (m:Nat) (hB:B≤w.heap.size) (h1:Hid (cA B v l w)) (hc:l.length≤1000000) :
  Calls Tryz.prog 152 #[v,.int .i64 m,.func (.func 120) #[] #[]] w fun e w'=>e=.returned (.bool (decide (l.length≤m)&&l.all properB))∧Below w.heap.size w w':=by
 obtain⟨ao,cap,rfl,_⟩:=fS h1.out;have hal:=(Below.refl w.heap.size w).alloc (Nat.le_refl _) (.cells #[.func (.func 120) #[] #[]] 33);have AL:=aA hal;have S1:=aA (eB h1.out (hal.mono hB));have hmf:∀ (fn:Fn) (first cap:Array Value) (w:World),(Instr.makeFunc fn first cap).run Tryz.prog w=.ok (.func fn first cap) w:=fun _ _ _ _=>rfl
 by_cases hl:l.length≤m
 ·have d:decide ((l.length:Int)≤(m:Int))=true:=decide_eq_true (by omega);have H:=aA (show (decide (l.length≤m)&&l.all properB)=!l.any fun x=>!properB x by rw [decide_eq_true hl,Bool.true_and,IY]);have CL:Hid (IX (fun x=>!properB x) (.pointer (some ⟨w.heap.size,0,none⟩)) l (w.alloc (.cells #[.func (.func 120) #[] #[]] 33))):=by
   intro x hx w' hb;exact (Dm x w.heap.size w' (cN hb (by simp) (by simp))).mono fun e w2 ⟨h1,h2⟩=>⟨h1,h2▸Below.refl _ _⟩
  clear hal h1 d;go_enter Tryz.func152,Tryz.ntmps152;go_wp2_with fail;refine (vV (fun x=>!properB x) B _ _ _ l (by simp;omega) S1 hc CL).mono ?_;rintro e w1 ⟨rfl,b1⟩;have B1:=aA (aH AL.out (by simp) b1);clear b1 AL S1 CL;go_wp2_with fail;go_ret;exact⟨by rw [H.out];rfl,B1.out⟩
 ·have d:decide ((l.length:Int)≤(m:Int))=false:=decide_eq_false (by omega);have H:=aA (show (decide (l.length≤m)&&l.all properB)=false by rw [decide_eq_false hl,Bool.false_and]);clear hal h1 d;go_enter Tryz.func152,Tryz.ntmps152;go_wp2_with fail;go_ret;exact⟨by rw [H.out];rfl,AL.out⟩
def qX (x:Nd):Prop:=∀ (B:Nat) (w:World) (nv kv:Value),Hid (Ok B w)→Hid (lB B w x nv kv)→dO x=true→bH x≤1000000→
  Calls Tryz.prog 123 #[.agg #[.int .i64 x.kind,.int .i64 x.op,.int .i64 x.num,.string x.str,nv,kv,.int .i64 x.pl]] w fun e w'=>
   e=.returned (.bool (rightN x 1))∧Below w.heap.size w w'
theorem Ny (x:Nd) (hx:qX x) (B:Nat) (w:World) (nv kv:Value) (g:Nat) (hO:Hid (Ok B w)) (hN:Hid (lB B w x nv kv)) (hs:dO x=true) (hc:bH x≤1000000) (hg:w.cell? ⟨g,0,none⟩=some (.func (.func 123) #[] #[])) (hgw:g<w.heap.size) :
  Calls Tryz.prog 119 #[.agg #[.int .i64 x.kind,.int .i64 x.op,.int .i64 x.num,.string x.str,nv,kv,.int .i64 x.pl],.pointer (some ⟨g,0,none⟩)] w fun e w'=>
   e=.returned (.bool (!rightN x 1))∧Below w.heap.size w w':=by
 obtain⟨a1,q1,a2,q2,rfl,rfl⟩:=bY hN.out;have hal:=(Below.refl w.heap.size w).alloc (Nat.le_refl _) (.cells #[.int .i64 x.kind,.int .i64 x.op,.int .i64 x.num,.string x.str,.slice a1 x.names.length q1,.slice a2 x.kids.length q2,.int .i64 x.pl] 26);have AL:=aA hal;have N:=aA (iN (hal.mono hO.out.1) _ _ _ hN.out);have O:=aA (aR hO.out (hal.mono hO.out.1));have HX:=aA hx;have HS:=aA hs;clear hal hN hx hO hs;go_enter Tryz.func119,Tryz.ntmps119;go_wp2_with fail;refine (HX.out B _ _ _ O N HS.out hc).mono ?_;rintro e w1 ⟨rfl,b1⟩;have B1:=aA (aH AL.out (by simp) b1);clear b1 AL N O;go_wp2_with fail;go_ret;exact⟨rfl,B1.out⟩
theorem AK (B:Nat) (w:World) (v:Value) (l:List Nd) (m:Nat) (hO:Hid (Ok B w)) (h1:Hid (dA B w v l)) (hs:∀ x∈l,dO x=true) (hc:bU l≤1000000) (hx:∀ x∈l,qX x) :
  Calls Tryz.prog 85 #[v,.int .i64 m,.func (.func 123) #[] #[]] w fun e w'=>e=.returned (.bool (decide (l.length≤m)&&!l.any fun x=>!rightN x 1))∧Below w.heap.size w w':=by
 obtain⟨ao,cap,rfl,_⟩:=eM h1.out;have hal:=(Below.refl w.heap.size w).alloc (Nat.le_refl _) (.cells #[.func (.func 123) #[] #[]] 40);have AL:=aA hal;have hB:=hO.out.1;have S1:=aA (dV (hal.mono hB) h1.out);have hlen:=dW l;have hmf:∀ (fn:Fn) (first cap:Array Value) (w:World),(Instr.makeFunc fn first cap).run Tryz.prog w=.ok (.func fn first cap) w:=fun _ _ _ _=>rfl
 by_cases hl:l.length≤m
 ·have d:decide ((l.length:Int)≤(m:Int))=true:=decide_eq_true (by omega);have H:=aA (show (decide (l.length≤m)&&!l.any fun x=>!rightN x 1)=!l.any fun x=>!rightN x 1 by rw [decide_eq_true hl,Bool.true_and]);have CL:Hid (IW (fun x=>!rightN x 1) B (.pointer (some ⟨w.heap.size,0,none⟩)) l (w.alloc (.cells #[.func (.func 123) #[] #[]] 40))):=by
   intro x hxl w' nv kv hb hin;have hcm:=jA hxl;have hz:=hb.size;simp only [World.size_alloc] at hz;exact Ny x (hx x hxl) B w' nv kv w.heap.size (aA (aR hO.out ((hal.mono hB).trans (hb.mono (by simp;omega))))) hin (hs x hxl) (by omega) (cN hb (by simp) (by simp)) (by omega)
  clear hal h1 hO hx hs d;go_enter Tryz.func85,Tryz.ntmps85;go_wp2_with fail;refine (vU (fun x=>!rightN x 1) B _ _ _ l (by simp;omega) S1 (by omega) CL).mono ?_;rintro e w1 ⟨rfl,b1⟩;have B1:=aA (aH AL.out (by simp) b1);clear b1 AL S1 CL;go_wp2_with fail;go_ret;exact⟨by rw [H.out];rfl,B1.out⟩
 ·have d:decide ((l.length:Int)≤(m:Int))=false:=decide_eq_false (by omega);have H:=aA (show (decide (l.length≤m)&&!l.any fun x=>!rightN x 1)=false by rw [decide_eq_false hl,Bool.false_and]);clear hal h1 hO hx hs d;go_enter Tryz.func85,Tryz.ntmps85;go_wp2_with fail;go_ret;exact⟨by rw [H.out];rfl,AL.out⟩
def sR (x:Nd):Prop:=∀ (B:Nat) (w:World) (nv kv:Value),Hid (Ok B w)→Hid (lB B w x nv kv)→dO x=true→bH x≤1000000→
  Calls Tryz.prog 86 #[.agg #[.int .i64 x.kind,.int .i64 x.op,.int .i64 x.num,.string x.str,nv,kv,.int .i64 x.pl]] w fun e w'=>
   e=.returned (.bool (rightN x 2))∧Below w.heap.size w w'
theorem Nz (x:Nd) (hx:sR x) (B:Nat) (w:World) (nv kv:Value) (g:Nat) (hO:Hid (Ok B w)) (hN:Hid (lB B w x nv kv)) (hs:dO x=true) (hc:bH x≤1000000) (hg:w.cell? ⟨g,0,none⟩=some (.func (.func 86) #[] #[])) (hgw:g<w.heap.size) :
  Calls Tryz.prog 119 #[.agg #[.int .i64 x.kind,.int .i64 x.op,.int .i64 x.num,.string x.str,nv,kv,.int .i64 x.pl],.pointer (some ⟨g,0,none⟩)] w fun e w'=>
   e=.returned (.bool (!rightN x 2))∧Below w.heap.size w w':=by
 obtain⟨a1,q1,a2,q2,rfl,rfl⟩:=bY hN.out;have hal:=(Below.refl w.heap.size w).alloc (Nat.le_refl _) (.cells #[.int .i64 x.kind,.int .i64 x.op,.int .i64 x.num,.string x.str,.slice a1 x.names.length q1,.slice a2 x.kids.length q2,.int .i64 x.pl] 26);have AL:=aA hal;have N:=aA (iN (hal.mono hO.out.1) _ _ _ hN.out);have O:=aA (aR hO.out (hal.mono hO.out.1));have HX:=aA hx;have HS:=aA hs;clear hal hN hx hO hs;go_enter Tryz.func119,Tryz.ntmps119;go_wp2_with fail;refine (HX.out B _ _ _ O N HS.out hc).mono ?_;rintro e w1 ⟨rfl,b1⟩;have B1:=aA (aH AL.out (by simp) b1);clear b1 AL N O;go_wp2_with fail;go_ret;exact⟨rfl,B1.out⟩
theorem NA (B:Nat) (w:World) (v:Value) (l:List Nd) (m:Nat) (hO:Hid (Ok B w)) (h1:Hid (dA B w v l)) (hs:∀ x∈l,dO x=true) (hc:bU l≤1000000) (hx:∀ x∈l,sR x) :
  Calls Tryz.prog 85 #[v,.int .i64 m,.func (.func 86) #[] #[]] w fun e w'=>e=.returned (.bool (decide (l.length≤m)&&!l.any fun x=>!rightN x 2))∧Below w.heap.size w w':=by
 obtain⟨ao,cap,rfl,_⟩:=eM h1.out;have hal:=(Below.refl w.heap.size w).alloc (Nat.le_refl _) (.cells #[.func (.func 86) #[] #[]] 40);have AL:=aA hal;have hB:=hO.out.1;have S1:=aA (dV (hal.mono hB) h1.out);have hlen:=dW l;have hmf:∀ (fn:Fn) (first cap:Array Value) (w:World),(Instr.makeFunc fn first cap).run Tryz.prog w=.ok (.func fn first cap) w:=fun _ _ _ _=>rfl
 by_cases hl:l.length≤m
 ·have d:decide ((l.length:Int)≤(m:Int))=true:=decide_eq_true (by omega);have H:=aA (show (decide (l.length≤m)&&!l.any fun x=>!rightN x 2)=!l.any fun x=>!rightN x 2 by rw [decide_eq_true hl,Bool.true_and]);have CL:Hid (IW (fun x=>!rightN x 2) B (.pointer (some ⟨w.heap.size,0,none⟩)) l (w.alloc (.cells #[.func (.func 86) #[] #[]] 40))):=by
   intro x hxl w' nv kv hb hin;have hcm:=jA hxl;have hz:=hb.size;simp only [World.size_alloc] at hz;exact Nz x (hx x hxl) B w' nv kv w.heap.size (aA (aR hO.out ((hal.mono hB).trans (hb.mono (by simp;omega))))) hin (hs x hxl) (by omega) (cN hb (by simp) (by simp)) (by omega)
  clear hal h1 hO hx hs d;go_enter Tryz.func85,Tryz.ntmps85;go_wp2_with fail;refine (vU (fun x=>!rightN x 2) B _ _ _ l (by simp;omega) S1 (by omega) CL).mono ?_;rintro e w1 ⟨rfl,b1⟩;have B1:=aA (aH AL.out (by simp) b1);clear b1 AL S1 CL;go_wp2_with fail;go_ret;exact⟨by rw [H.out];rfl,B1.out⟩
 ·have d:decide ((l.length:Int)≤(m:Int))=false:=decide_eq_false (by omega);have H:=aA (show (decide (l.length≤m)&&!l.any fun x=>!rightN x 2)=false by rw [decide_eq_false hl,Bool.false_and]);clear hal h1 hO hx hs d;go_enter Tryz.func85,Tryz.ntmps85;go_wp2_with fail;go_ret;exact⟨by rw [H.out];rfl,AL.out⟩
def yS (x:Nd):Prop:=∀ (B:Nat) (w:World) (nv kv:Value),Hid (Ok B w)→Hid (lB B w x nv kv)→dO x=true→bH x≤1000000→
  Calls Tryz.prog 34 #[.agg #[.int .i64 x.kind,.int .i64 x.op,.int .i64 x.num,.string x.str,nv,kv,.int .i64 x.pl]] w fun e w'=>
   e=.returned (.bool (rightN x 3))∧Below w.heap.size w w'
theorem sS (B:Nat) (w:World) (v:Value) (l:List Nd) (hO:Hid (Ok B w)) (h1:Hid (dA B w v l)) (hs:∀ x∈l,dO x=true) (hc:bU l≤1000000) (hx:∀ x∈l,sR x) :
  Calls Tryz.prog 61 #[v] w fun e w'=>e=.returned (.bool (decide (l.length≤40)&&!l.any fun x=>!rightN x 2))∧Below w.heap.size w w':=by
 have key:=aA (NA B w v l 40 hO h1 hs hc hx);clear hO h1 hs hc hx;go_enter Tryz.func61,Tryz.ntmps61;go_wp2_with fail;refine key.out.mono ?_;rintro e w1 ⟨rfl,b1⟩;go_wp2_with fail;go_ret;exact⟨rfl,b1⟩
theorem cK (B:Nat) (w:World) (v:Value) (l:List Nd) (m:Nat) (hO:Hid (Ok B w)) (h1:Hid (dA B w v l)) (hs:∀ x∈l,dO x=true) (hc:bU l≤1000000) (hx:∀ x∈l,qX x) :
  Calls Tryz.prog 121 #[v,.int .i64 m] w fun e w'=>e=.returned (.bool (decide (l.length=m)&&!l.any fun x=>!rightN x 1))∧Below w.heap.size w w':=by
 have key:=aA (AK B w v l m hO h1 hs hc hx);obtain⟨ao,cap,rfl,_⟩:=eM h1.out;clear hO h1 hs hc hx;by_cases hl:l.length=m
 ·have d:((l.length:Int)==(m:Int))=true:=beq_iff_eq.2 (by omega);have H:=aA (show (decide (l.length=m)&&!l.any fun x=>!rightN x 1)=(decide (l.length≤m)&&!l.any fun x=>!rightN x 1) by rw [decide_eq_true hl,decide_eq_true (by omega)]);clear hl;go_enter Tryz.func121,Tryz.ntmps121;go_wp2_with fail;refine key.out.mono ?_;rintro e w1 ⟨rfl,b1⟩;rw [← H.out];go_wp2_with fail;go_ret;exact⟨rfl,b1⟩
 ·have d:((l.length:Int)==(m:Int))=false:=beq_eq_false_iff_ne.2 (by omega);have H:=aA (show (decide (l.length=m)&&!l.any fun x=>!rightN x 1)=false by rw [decide_eq_false hl,Bool.false_and]);clear hl;go_enter Tryz.func121,Tryz.ntmps121;go_wp2_with fail;go_ret;exact⟨by rw [H.out];rfl,Below.refl _ _⟩
theorem vW (B:Nat) (w:World) (v:Value) (l:List Nd) (hO:Hid (Ok B w)) (h1:Hid (dA B w v l)) (hs:∀ x∈l,dO x=true) (hc:bU l≤1000000) (hx:∀ x∈l,qX x) :
  Calls Tryz.prog 153 #[v] w fun e w'=>e=.returned (.bool (decide (1≤l.length∧l.length≤7)&&!l.any fun x=>!rightN x 1))∧Below w.heap.size w w':=by
 have key:=aA (AK B w v l 7 hO h1 hs hc hx);obtain⟨ao,cap,rfl,_⟩:=eM h1.out;clear hO h1 hs hc hx;by_cases hl:0<l.length
 ·have d:decide ((0:Int)<(l.length:Int))=true:=decide_eq_true (by omega);have H:=aA (show (decide (1≤l.length∧l.length≤7)&&!l.any fun x=>!rightN x 1)=(decide (l.length≤7)&&!l.any fun x=>!rightN x 1) by
   congr 1;rw [Bool.eq_iff_iff,decide_eq_true_iff,decide_eq_true_iff];omega)
  clear d;go_enter Tryz.func153,Tryz.ntmps153;go_wp2_with fail;refine key.out.mono ?_;rintro e w1 ⟨rfl,b1⟩;go_wp2_with fail;go_ret;exact⟨by rw [H.out];rfl,b1⟩
 ·have d:decide ((0:Int)<(l.length:Int))=false:=decide_eq_false (by omega);have H:=aA (show (decide (1≤l.length∧l.length≤7)&&!l.any fun x=>!rightN x 1)=false by rw [decide_eq_false (by omega),Bool.false_and]);clear d;go_enter Tryz.func153,Tryz.ntmps153;go_wp2_with fail;go_ret;exact⟨by rw [H.out];rfl,Below.refl _ _⟩
def fP (k o n:Int) (s:ByteArray) (ns:List ByteArray) (c:Nat):Bool:=
 alikeB k o n s ns c k (cond (dC k) o 0) (cond (cC k) n 0) (cond (cG k) s ⟨#[]⟩) (cond (cS k) ns []) (cond (eQ k) 0 c)
theorem NB (s:ByteArray):(s.data.toList==(⟨#[]⟩:ByteArray).data.toList)=decide (s.size=0):=by
 have e:s.size=s.data.toList.length:=by simp
 rw [Bool.eq_iff_iff,beq_iff_eq,decide_eq_true_iff,e,List.length_eq_zero_iff]
theorem ON (ns:List ByteArray):namesB ns []=decide (ns.length=0):=by
 unfold namesB;cases ns<;>rfl
theorem OO (ns:List ByteArray):namesB ns ns=true:=by simp [namesB]
theorem cW (k o n:Int) (s:ByteArray) (ns:List ByteArray) (c:Nat):fP k o n s ns c =
  (cond (dC k) true (decide (o=0))&&(cond (cC k) true (decide (n=0))&&(cond (cG k) true (decide (s.size=0))&&(cond (cS k) true (decide (ns.length=0))&&cond (eQ k) (decide (c=0)) true)))):=by
 unfold fP alikeB;rw [beq_self_eq_true,Bool.true_and];congr 1
 ·cases dC k
  ·rw [Bool.eq_iff_iff];simp
  ·simp
 congr 1
 ·cases cC k
  ·rw [Bool.eq_iff_iff];simp
  ·simp
 congr 1
 ·cases cG k
  ·exact NB s
  ·simp
 congr 1
 ·cases cS k
  ·exact ON ns
  ·exact OO ns
 ·cases eQ k
  ·simp
  ·rw [Bool.eq_iff_iff];simp
theorem Ll (o:Int):(signT o != [])=decide (1≤o∧o≤11):=by
 by_cases h:0≤o∧o≤11
 ·obtain rfl | rfl | rfl | rfl | rfl | rfl | rfl | rfl | rfl | rfl | rfl | rfl:o=0∨o=1∨o=2∨o=3∨o=4∨o=5∨o=6∨o=7∨o=8∨o=9∨o=10∨o=11:=by omega
  all_goals rfl
 ·rw [decide_eq_false (by omega)];have:signT o=[]:=by
   unfold signT;by_cases h0:o<0
   ·rw [if_pos h0]
   ·rw [if_neg h0,List.getD_eq_getElem?_getD,List.getElem?_eq_none (by simp [tsgnL];omega)];rfl
  rw [this];rfl
theorem Bp (o:Int):decide (0<(builtT o).2)=decide (1≤o∧o≤7):=by
 by_cases h:0≤o∧o≤7
 ·obtain rfl | rfl | rfl | rfl | rfl | rfl | rfl | rfl:o=0∨o=1∨o=2∨o=3∨o=4∨o=5∨o=6∨o=7:=by omega
  all_goals rfl
 ·rw [show decide (1≤o∧o≤7)=false from decide_eq_false (by omega)];have:builtT o=([],0):=by
   unfold builtT;by_cases h0:o<0
   ·rw [if_pos h0]
   ·rw [if_neg h0,List.getD_eq_getElem?_getD,List.getElem?_eq_none (by simp [builtL];omega)];rfl
  rw [this];rfl
theorem Qm (o n:Int) (s:ByteArray) (ns:List ByteArray) (ks:List Nd) (p:Int):rightN (.mk 1 o n s ns ks p) 1=(fP 1 o n s ns ks.length&&true):=by
 rw [aQ,cW];cases ks with
 | nil=>
  have e:cL [] 1 0=true:=by rw [cL]
  rw [e];simp [jS,kD,cT,bQ,bM,cR,bN,dC,cC,cG,cS,eQ];try (rw [Bool.eq_iff_iff];simp;grind)
 | cons x r=>
  simp [jS,kD,cT,bQ,bM,cR,bN,dC,cC,cG,cS,eQ]
theorem Qn (o n:Int) (s:ByteArray) (ns:List ByteArray) (ks:List Nd) (p:Int):rightN (.mk 6 o n s ns ks p) 1=(fP 6 o n s ns ks.length&&true):=by
 rw [aQ,cW];cases ks with
 | nil=>
  have e:cL [] 6 0=true:=by rw [cL]
  rw [e];simp [jS,kD,cT,bQ,bM,cR,bN,dC,cC,cG,cS,eQ];try (rw [Bool.eq_iff_iff];simp;grind)
 | cons x r=>
  simp [jS,kD,cT,bQ,bM,cR,bN,dC,cC,cG,cS,eQ]
theorem NC (o n:Int) (s:ByteArray) (ns:List ByteArray) (ks:List Nd) (p:Int):rightN (.mk 2 o n s ns ks p) 1=(fP 2 o n s ns ks.length&&(decide (n=0)||decide (n=1))):=by
 rw [aQ,cW];cases ks with
 | nil=>
  have e:cL [] 2 0=true:=by rw [cL]
  rw [e];simp [jS,kD,cT,bQ,bM,cR,bN,dC,cC,cG,cS,eQ];try (rw [Bool.eq_iff_iff];simp;grind)
 | cons x r=>
  simp [jS,kD,cT,bQ,bM,cR,bN,dC,cC,cG,cS,eQ]
theorem ND (o n:Int) (s:ByteArray) (ns:List ByteArray) (ks:List Nd) (p:Int):rightN (.mk 3 o n s ns ks p) 1=(fP 3 o n s ns ks.length&&(decide (0≤n)&&decide (n≤4611686018427387903))):=by
 rw [aQ,cW];cases ks with
 | nil=>
  have e:cL [] 3 0=true:=by rw [cL]
  rw [e];simp [jS,kD,cT,bQ,bM,cR,bN,dC,cC,cG,cS,eQ];try (rw [Bool.eq_iff_iff];simp;grind)
 | cons x r=>
  simp [jS,kD,cT,bQ,bM,cR,bN,dC,cC,cG,cS,eQ]
theorem Qo (o n:Int) (s:ByteArray) (ns:List ByteArray) (ks:List Nd) (p:Int):rightN (.mk 4 o n s ns ks p) 1=(fP 4 o n s ns ks.length&&decide (s.size≤256)):=by
 rw [aQ,cW];cases ks with
 | nil=>
  have e:cL [] 4 0=true:=by rw [cL]
  rw [e];simp [jS,kD,cT,bQ,bM,cR,bN,dC,cC,cG,cS,eQ];try (rw [Bool.eq_iff_iff];simp;grind)
 | cons x r=>
  simp [jS,kD,cT,bQ,bM,cR,bN,dC,cC,cG,cS,eQ]
theorem NE (o n:Int) (s:ByteArray) (ns:List ByteArray) (ks:List Nd) (p:Int):rightN (.mk 5 o n s ns ks p) 1=(fP 5 o n s ns ks.length&&properB s):=by
 rw [aQ,cW];cases ks with
 | nil=>
  have e:cL [] 5 0=true:=by rw [cL]
  rw [e];simp [jS,kD,cT,bQ,bM,cR,bN,dC,cC,cG,cS,eQ];try (rw [Bool.eq_iff_iff];simp;grind)
 | cons x r=>
  simp [jS,kD,cT,bQ,bM,cR,bN,dC,cC,cG,cS,eQ]
theorem NF (o n:Int) (s:ByteArray) (ns:List ByteArray) (ks:List Nd) (p:Int):rightN (.mk 7 o n s ns ks p) 1=(fP 7 o n s ns ks.length&&(decide (ns.length=ks.length)&&((decide (ns.length≤40)&&ns.all dH)&&(decide (ks.length≤40)&&(!ks.any fun x=>!rightN x 1))))):=by
 rw [aQ,cW];rw [dB (a:=1) (by intro i;simp [bJ])];generalize (!ks.any fun x=>!rightN x 1)=b;simp [jS,kD,cT,bQ,bM,cR,bN,dC,cC,cG,cS,eQ];try (rw [Bool.eq_iff_iff];simp;grind)
theorem NG (o n:Int) (s:ByteArray) (ns:List ByteArray) (ks:List Nd) (p:Int):rightN (.mk 8 o n s ns ks p) 1=(fP 8 o n s ns ks.length&&((decide (ns.length≤6)&&ns.all properB)&&(decide (ks.length≤40)&&(!ks.any fun x=>!rightN x 2)))):=by
 rw [aQ,cW];rw [dB (a:=2) (by intro i;simp [bJ])];generalize (!ks.any fun x=>!rightN x 2)=b;simp [jS,kD,cT,bQ,bM,cR,bN,dC,cC,cG,cS,eQ];try (rw [Bool.eq_iff_iff];simp;grind)
theorem NH (o n:Int) (s:ByteArray) (ns:List ByteArray) (ks:List Nd) (p:Int):rightN (.mk 9 o n s ns ks p) 1=(fP 9 o n s ns ks.length&&((decide (o=1)||decide (o=2))&&(decide (ks.length=1)&&(!ks.any fun x=>!rightN x 1)))):=by
 rw [aQ,cW];rw [dB (a:=1) (by intro i;simp [bJ])];generalize (!ks.any fun x=>!rightN x 1)=b;simp [jS,kD,cT,bQ,bM,cR,bN,dC,cC,cG,cS,eQ];try (rw [Bool.eq_iff_iff];simp;grind)
theorem IZ (o n:Int) (s:ByteArray) (ns:List ByteArray) (ks:List Nd) (p:Int):rightN (.mk 10 o n s ns ks p) 1=(fP 10 o n s ns ks.length&&((signT o != [])&&(decide (ks.length=2)&&(!ks.any fun x=>!rightN x 1)))):=by
 rw [aQ,cW];rw [dB (a:=1) (by intro i;simp [bJ])];rw [Ll];generalize (!ks.any fun x=>!rightN x 1)=b;simp [jS,kD,cT,bQ,bM,cR,bN,dC,cC,cG,cS,eQ];try (rw [Bool.eq_iff_iff];simp;grind)
theorem Ja (o n:Int) (s:ByteArray) (ns:List ByteArray) (ks:List Nd) (p:Int):rightN (.mk 11 o n s ns ks p) 1=(fP 11 o n s ns ks.length&&(decide (ks.length=2)&&(!ks.any fun x=>!rightN x 1))):=by
 rw [aQ,cW];rw [dB (a:=1) (by intro i;simp [bJ])];generalize (!ks.any fun x=>!rightN x 1)=b;simp [jS,kD,cT,bQ,bM,cR,bN,dC,cC,cG,cS,eQ];try (rw [Bool.eq_iff_iff];simp;grind)
theorem Jb (o n:Int) (s:ByteArray) (ns:List ByteArray) (ks:List Nd) (p:Int):rightN (.mk 12 o n s ns ks p) 1=(fP 12 o n s ns ks.length&&(decide (ks.length=2)&&(!ks.any fun x=>!rightN x 1))):=by
 rw [aQ,cW];rw [dB (a:=1) (by intro i;simp [bJ])];generalize (!ks.any fun x=>!rightN x 1)=b;simp [jS,kD,cT,bQ,bM,cR,bN,dC,cC,cG,cS,eQ];try (rw [Bool.eq_iff_iff];simp;grind)
theorem Jc (o n:Int) (s:ByteArray) (ns:List ByteArray) (ks:List Nd) (p:Int):rightN (.mk 14 o n s ns ks p) 1=(fP 14 o n s ns ks.length&&(decide (ks.length=2)&&(!ks.any fun x=>!rightN x 1))):=by
 rw [aQ,cW];rw [dB (a:=1) (by intro i;simp [bJ])];generalize (!ks.any fun x=>!rightN x 1)=b;simp [jS,kD,cT,bQ,bM,cR,bN,dC,cC,cG,cS,eQ];try (rw [Bool.eq_iff_iff];simp;grind)
theorem Jd (o n:Int) (s:ByteArray) (ns:List ByteArray) (ks:List Nd) (p:Int):rightN (.mk 13 o n s ns ks p) 1=(fP 13 o n s ns ks.length&&(dH s&&(decide (ks.length=1)&&(!ks.any fun x=>!rightN x 1)))):=by
 rw [aQ,cW];rw [dB (a:=1) (by intro i;simp [bJ])];generalize (!ks.any fun x=>!rightN x 1)=b;simp [jS,kD,cT,bQ,bM,cR,bN,dC,cC,cG,cS,eQ];try (rw [Bool.eq_iff_iff];simp;grind)
theorem Je (o n:Int) (s:ByteArray) (ns:List ByteArray) (ks:List Nd) (p:Int):rightN (.mk 15 o n s ns ks p) 1=(fP 15 o n s ns ks.length&&(decide (1≤ks.length∧ks.length≤7)&&(!ks.any fun x=>!rightN x 1))):=by
 rw [aQ,cW];rw [dB (a:=1) (by intro i;simp [bJ])];generalize (!ks.any fun x=>!rightN x 1)=b;simp [jS,kD,cT,bQ,bM,cR,bN,dC,cC,cG,cS,eQ];try (rw [Bool.eq_iff_iff];simp;grind)
theorem Jf (o n:Int) (s:ByteArray) (ns:List ByteArray) (ks:List Nd) (p:Int):rightN (.mk 16 o n s ns ks p) 1=(fP 16 o n s ns ks.length&&(dH s&&(decide (1≤ks.length∧ks.length≤7)&&(!ks.any fun x=>!rightN x 1)))):=by
 rw [aQ,cW];rw [dB (a:=1) (by intro i;simp [bJ])];generalize (!ks.any fun x=>!rightN x 1)=b;simp [jS,kD,cT,bQ,bM,cR,bN,dC,cC,cG,cS,eQ];try (rw [Bool.eq_iff_iff];simp;grind)
theorem Jg (o n:Int) (s:ByteArray) (ns:List ByteArray) (ks:List Nd) (p:Int):rightN (.mk 17 o n s ns ks p) 1=(fP 17 o n s ns ks.length&&(decide (0<(builtT o).2)&&(decide (ks.length=(builtT o).2)&&(!ks.any fun x=>!rightN x 1)))):=by
 rw [aQ,cW];rw [dB (a:=1) (by intro i;simp [bJ])];rw [Bp];generalize (!ks.any fun x=>!rightN x 1)=b;simp [jS,kD,cT,bQ,bM,cR,bN,dC,cC,cG,cS,eQ];try (rw [Bool.eq_iff_iff];simp;grind)
theorem Jh (o n:Int) (s:ByteArray) (ns:List ByteArray) (ks:List Nd) (p:Int):rightN (.mk 21 o n s ns ks p) 2=(fP 21 o n s ns ks.length&&(properB s&&(decide (ks.length=1)&&(!ks.any fun x=>!rightN x 1)))):=by
 rw [aQ,cW];rw [dB (a:=1) (by intro i;simp [bJ])];generalize (!ks.any fun x=>!rightN x 1)=b;simp [jS,kD,cT,bQ,bM,cR,bN,dC,cC,cG,cS,eQ];try (rw [Bool.eq_iff_iff];simp;grind)
theorem Ji (o n:Int) (s:ByteArray) (ns:List ByteArray) (ks:List Nd) (p:Int):rightN (.mk 22 o n s ns ks p) 2=(fP 22 o n s ns ks.length&&(properB s&&(decide (ks.length=1)&&(!ks.any fun x=>!rightN x 1)))):=by
 rw [aQ,cW];rw [dB (a:=1) (by intro i;simp [bJ])];generalize (!ks.any fun x=>!rightN x 1)=b;simp [jS,kD,cT,bQ,bM,cR,bN,dC,cC,cG,cS,eQ];try (rw [Bool.eq_iff_iff];simp;grind)
theorem Jj (o n:Int) (s:ByteArray) (ns:List ByteArray) (ks:List Nd) (p:Int):rightN (.mk 23 o n s ns ks p) 2=(fP 23 o n s ns ks.length&&(dH s&&(decide (ks.length=2)&&(!ks.any fun x=>!rightN x 1)))):=by
 rw [aQ,cW];rw [dB (a:=1) (by intro i;simp [bJ])];generalize (!ks.any fun x=>!rightN x 1)=b;simp [jS,kD,cT,bQ,bM,cR,bN,dC,cC,cG,cS,eQ];try (rw [Bool.eq_iff_iff];simp;grind)
theorem Jk (o n:Int) (s:ByteArray) (ns:List ByteArray) (ks:List Nd) (p:Int):rightN (.mk 24 o n s ns ks p) 2=(fP 24 o n s ns ks.length&&(decide (ks.length=3)&&(!ks.any fun x=>!rightN x 1))):=by
 rw [aQ,cW];rw [dB (a:=1) (by intro i;simp [bJ])];generalize (!ks.any fun x=>!rightN x 1)=b;simp [jS,kD,cT,bQ,bM,cR,bN,dC,cC,cG,cS,eQ];try (rw [Bool.eq_iff_iff];simp;grind)
theorem Jl (o n:Int) (s:ByteArray) (ns:List ByteArray) (ks:List Nd) (p:Int):rightN (.mk 25 o n s ns ks p) 2=(fP 25 o n s ns ks.length&&(dH s&&(decide (ks.length=1)&&(!ks.any fun x=>!rightN x 1)))):=by
 rw [aQ,cW];rw [dB (a:=1) (by intro i;simp [bJ])];generalize (!ks.any fun x=>!rightN x 1)=b;simp [jS,kD,cT,bQ,bM,cR,bN,dC,cC,cG,cS,eQ];try (rw [Bool.eq_iff_iff];simp;grind)
theorem Jm (o n:Int) (s:ByteArray) (ns:List ByteArray) (ks:List Nd) (p:Int):rightN (.mk 26 o n s ns ks p) 2=(fP 26 o n s ns ks.length&&(decide (ks.length=2)&&(!ks.any fun x=>!rightN x 1))):=by
 rw [aQ,cW];rw [dB (a:=1) (by intro i;simp [bJ])];generalize (!ks.any fun x=>!rightN x 1)=b;simp [jS,kD,cT,bQ,bM,cR,bN,dC,cC,cG,cS,eQ];try (rw [Bool.eq_iff_iff];simp;grind)
theorem Jn (o n:Int) (s:ByteArray) (ns:List ByteArray) (ks:List Nd) (p:Int):rightN (.mk 27 o n s ns ks p) 2=(fP 27 o n s ns ks.length&&(decide (ks.length=1)&&(!ks.any fun x=>!rightN x 1))):=by
 rw [aQ,cW];rw [dB (a:=1) (by intro i;simp [bJ])];generalize (!ks.any fun x=>!rightN x 1)=b;simp [jS,kD,cT,bQ,bM,cR,bN,dC,cC,cG,cS,eQ];try (rw [Bool.eq_iff_iff];simp;grind)
theorem Jo (o n:Int) (s:ByteArray) (ns:List ByteArray) (ks:List Nd) (p:Int):rightN (.mk 31 o n s ns ks p) 2=(fP 31 o n s ns ks.length&&(decide (ks.length=1)&&(!ks.any fun x=>!rightN x 1))):=by
 rw [aQ,cW];rw [dB (a:=1) (by intro i;simp [bJ])];generalize (!ks.any fun x=>!rightN x 1)=b;simp [jS,kD,cT,bQ,bM,cR,bN,dC,cC,cG,cS,eQ];try (rw [Bool.eq_iff_iff];simp;grind)
theorem Jp (o n:Int) (s:ByteArray) (ns:List ByteArray) (ks:List Nd) (p:Int):rightN (.mk 32 o n s ns ks p) 2=(fP 32 o n s ns ks.length&&(decide (ks.length=1)&&(!ks.any fun x=>!rightN x 1))):=by
 rw [aQ,cW];rw [dB (a:=1) (by intro i;simp [bJ])];generalize (!ks.any fun x=>!rightN x 1)=b;simp [jS,kD,cT,bQ,bM,cR,bN,dC,cC,cG,cS,eQ];try (rw [Bool.eq_iff_iff];simp;grind)
theorem Jq (o n:Int) (s:ByteArray) (ns:List ByteArray) (ks:List Nd) (p:Int):rightN (.mk 29 o n s ns ks p) 3=(fP 29 o n s ns ks.length&&(decide (ks.length≤40)&&(!ks.any fun x=>!rightN x 2))):=by
 rw [aQ,cW];rw [dB (a:=2) (by intro i;simp [bJ])];generalize (!ks.any fun x=>!rightN x 2)=b;simp [jS,kD,cT,bQ,bM,cR,bN,dC,cC,cG,cS,eQ];try (rw [Bool.eq_iff_iff];simp;grind)
end Go.Proofs.YtdnnmjhfidimcaaGreatDoor
