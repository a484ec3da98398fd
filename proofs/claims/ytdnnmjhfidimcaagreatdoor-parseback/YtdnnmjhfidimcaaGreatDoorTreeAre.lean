/- Signs, built-in calls, and whether all of some nodes or names are right. -/
import Derived.Test.YtdnnmjhfidimcaaGreatDoorJoint7
import Derived.Test.YtdnnmjhfidimcaaGreatDoorJoint8
import Derived.Test.YtdnnmjhfidimcaaGreatDoorJoint4
import Derived.Test.YtdnnmjhfidimcaaGreatDoorJoint9
import Derived.Test.YtdnnmjhfidimcaaGreatDoorJoint3
namespace Go.Proofs.YtdnnmjhfidimcaaGreatDoor
open Go.RowKit
theorem oC (s:ByteArray) (w:World) :
  Calls Tryz.prog 120 #[.string s] w fun e w'=>e=.returned (.bool (properB s))∧w=w':=by
 have H:=aA (show properB s=(nameB s.data.toList&&!iW s.data.toList) from rfl);go_enter Tryz.func120,Tryz.ntmps120;go_wp2_with fail;refine (iY s _).mono ?_;rintro e w1 ⟨rfl,rfl⟩;generalize nameB s.data.toList=nb at *
 cases nb
 ·go_wp2_with fail;go_ret;exact⟨by rw [H.out];rfl,rfl⟩
 ·go_wp2_with fail;refine (qB s _).mono ?_;rintro e w1 ⟨rfl,rfl⟩;go_wp2_with fail;go_ret;exact⟨by rw [H.out];rfl,rfl⟩
theorem Jl (s:ByteArray) (g:Nat) (w:World) (hg:w.cell? ⟨g,0,none⟩=some (.func (.func 122) #[] #[])) :
  Calls Tryz.prog 167 #[.string s,.pointer (some ⟨g,0,none⟩)] w fun e w'=>e=.returned (.bool (!dM s))∧w=w':=by
 have H:=aA (show dM s=nameB s.data.toList from rfl);go_enter Tryz.func167,Tryz.ntmps167;go_wp2_with fail;refine (iY s _).mono ?_;rintro e w1 ⟨rfl,rfl⟩;go_wp2_with fail;go_ret;exact⟨by rw [H.out];rfl,rfl⟩
theorem Ew (s:ByteArray) (g:Nat) (w:World) (hg:w.cell? ⟨g,0,none⟩=some (.func (.func 120) #[] #[])) :
  Calls Tryz.prog 167 #[.string s,.pointer (some ⟨g,0,none⟩)] w fun e w'=>e=.returned (.bool (!properB s))∧w=w':=by
 go_enter Tryz.func167,Tryz.ntmps167;go_wp2_with fail;refine (oC s _).mono ?_;rintro e w1 ⟨rfl,rfl⟩;go_wp2_with fail;go_ret;exact⟨rfl,rfl⟩
theorem KP {α:Type} (P:α→Bool) (l:List α):l.all P=!l.any fun x=>!P x:=by
 induction l with
 | nil=>rfl
 | cons x r ih=>rw [List.all_cons,List.any_cons,ih];cases P x<;>simp
theorem Gd (B:Nat) (w:World) (v:Value) (l:List ByteArray) (m:Nat) (hB:B≤w.heap.size) (h1:Hid (cE B v l w)) (hc:l.length≤1000000) :
  Calls Tryz.prog 152 #[v,.int .i64 m,.func (.func 122) #[] #[]] w fun e w'=>e=.returned (.bool (decide (l.length≤m)&&l.all dM))∧Below w.heap.size w w':=by
 obtain⟨ao,cap,rfl,_⟩:=eR h1.out;have hal:=(Below.refl w.heap.size w).alloc (Nat.le_refl _) (.cells #[.func (.func 122) #[] #[]] 33);have AL:=aA hal;have S1:=aA (fC h1.out (hal.mono hB));have hmf:∀ (fn:Fn) (first cap:Array Value) (w:World),(Instr.makeFunc fn first cap).run Tryz.prog w=.ok (.func fn first cap) w:=fun _ _ _ _=>rfl
 by_cases hl:l.length≤m
 ·have d:decide ((l.length:Int)≤(m:Int))=true:=decide_eq_true (by omega);have H:=aA (show (decide (l.length≤m)&&l.all dM)=!l.any fun x=>!dM x by rw [decide_eq_true hl,Bool.true_and,KP]);have CL:Hid (KO (fun x=>!dM x) (.pointer (some ⟨w.heap.size,0,none⟩)) l (w.alloc (.cells #[.func (.func 122) #[] #[]] 33))):=by
   intro x hx w' hb;exact (Jl x w.heap.size w' (bF hb (by simp) (by simp))).mono fun e w2 ⟨h1,h2⟩=>⟨h1,h2▸Below.refl _ _⟩
  clear hal h1 d;go_enter Tryz.func152,Tryz.ntmps152;go_wp2_with fail;refine (xT (fun x=>!dM x) B _ _ _ l (by simp;omega) S1 hc CL).mono ?_;rintro e w1 ⟨rfl,b1⟩;have B1:=aA (aG AL.out (by simp) b1);clear b1 AL S1 CL;go_wp2_with fail;go_ret;exact⟨by rw [H.out];rfl,B1.out⟩
 ·have d:decide ((l.length:Int)≤(m:Int))=false:=decide_eq_false (by omega);have H:=aA (show (decide (l.length≤m)&&l.all dM)=false by rw [decide_eq_false hl,Bool.false_and]);clear hal h1 d;go_enter Tryz.func152,Tryz.ntmps152;go_wp2_with fail;go_ret;exact⟨by rw [H.out];rfl,AL.out⟩
theorem Cw (B:Nat) (w:World) (v:Value) (l:List ByteArray) (m:Nat) (hB:B≤w.heap.size) (h1:Hid (cE B v l w)) (hc:l.length≤1000000) :
  Calls Tryz.prog 152 #[v,.int .i64 m,.func (.func 120) #[] #[]] w fun e w'=>e=.returned (.bool (decide (l.length≤m)&&l.all properB))∧Below w.heap.size w w':=by
 obtain⟨ao,cap,rfl,_⟩:=eR h1.out;have hal:=(Below.refl w.heap.size w).alloc (Nat.le_refl _) (.cells #[.func (.func 120) #[] #[]] 33);have AL:=aA hal;have S1:=aA (fC h1.out (hal.mono hB));have hmf:∀ (fn:Fn) (first cap:Array Value) (w:World),(Instr.makeFunc fn first cap).run Tryz.prog w=.ok (.func fn first cap) w:=fun _ _ _ _=>rfl
 by_cases hl:l.length≤m
 ·have d:decide ((l.length:Int)≤(m:Int))=true:=decide_eq_true (by omega);have H:=aA (show (decide (l.length≤m)&&l.all properB)=!l.any fun x=>!properB x by rw [decide_eq_true hl,Bool.true_and,KP]);have CL:Hid (KO (fun x=>!properB x) (.pointer (some ⟨w.heap.size,0,none⟩)) l (w.alloc (.cells #[.func (.func 120) #[] #[]] 33))):=by
   intro x hx w' hb;exact (Ew x w.heap.size w' (bF hb (by simp) (by simp))).mono fun e w2 ⟨h1,h2⟩=>⟨h1,h2▸Below.refl _ _⟩
  clear hal h1 d;go_enter Tryz.func152,Tryz.ntmps152;go_wp2_with fail;refine (xT (fun x=>!properB x) B _ _ _ l (by simp;omega) S1 hc CL).mono ?_;rintro e w1 ⟨rfl,b1⟩;have B1:=aA (aG AL.out (by simp) b1);clear b1 AL S1 CL;go_wp2_with fail;go_ret;exact⟨by rw [H.out];rfl,B1.out⟩
 ·have d:decide ((l.length:Int)≤(m:Int))=false:=decide_eq_false (by omega);have H:=aA (show (decide (l.length≤m)&&l.all properB)=false by rw [decide_eq_false hl,Bool.false_and]);clear hal h1 d;go_enter Tryz.func152,Tryz.ntmps152;go_wp2_with fail;go_ret;exact⟨by rw [H.out];rfl,AL.out⟩
def sC (x:Nd):Prop:=∀ (B:Nat) (w:World) (nv kv:Value),Hid (Ok B w)→Hid (jS B w x nv kv)→dL x=true→bM x≤1000000→
  Calls Tryz.prog 123 #[.agg #[.int .i64 x.kind,.int .i64 x.op,.int .i64 x.num,.string x.str,nv,kv,.int .i64 x.pl]] w fun e w'=>
   e=.returned (.bool (rightN x 1))∧Below w.heap.size w w'
theorem Ph (x:Nd) (hx:sC x) (B:Nat) (w:World) (nv kv:Value) (g:Nat) (hO:Hid (Ok B w)) (hN:Hid (jS B w x nv kv)) (hs:dL x=true) (hc:bM x≤1000000) (hg:w.cell? ⟨g,0,none⟩=some (.func (.func 123) #[] #[])) (hgw:g<w.heap.size) :
  Calls Tryz.prog 119 #[.agg #[.int .i64 x.kind,.int .i64 x.op,.int .i64 x.num,.string x.str,nv,kv,.int .i64 x.pl],.pointer (some ⟨g,0,none⟩)] w fun e w'=>
   e=.returned (.bool (!rightN x 1))∧Below w.heap.size w w':=by
 obtain⟨a1,q1,a2,q2,rfl,rfl⟩:=cC hN.out;have hal:=(Below.refl w.heap.size w).alloc (Nat.le_refl _) (.cells #[.int .i64 x.kind,.int .i64 x.op,.int .i64 x.num,.string x.str,.slice a1 x.names.length q1,.slice a2 x.kids.length q2,.int .i64 x.pl] 26);have AL:=aA hal;have N:=aA (eQ (hal.mono hO.out.1) _ _ _ hN.out);have O:=aA (aR hO.out (hal.mono hO.out.1));have HX:=aA hx;have HS:=aA hs;clear hal hN hx hO hs;go_enter Tryz.func119,Tryz.ntmps119;go_wp2_with fail;refine (HX.out B _ _ _ O N HS.out hc).mono ?_;rintro e w1 ⟨rfl,b1⟩;have B1:=aA (aG AL.out (by simp) b1);clear b1 AL N O;go_wp2_with fail;go_ret;exact⟨rfl,B1.out⟩
theorem BU (B:Nat) (w:World) (v:Value) (l:List Nd) (m:Nat) (hO:Hid (Ok B w)) (h1:Hid (dI B w v l)) (hs:∀ x∈l,dL x=true) (hc:bW l≤1000000) (hx:∀ x∈l,sC x) :
  Calls Tryz.prog 85 #[v,.int .i64 m,.func (.func 123) #[] #[]] w fun e w'=>e=.returned (.bool (decide (l.length≤m)&&!l.any fun x=>!rightN x 1))∧Below w.heap.size w w':=by
 obtain⟨ao,cap,rfl,_⟩:=eA h1.out;have hal:=(Below.refl w.heap.size w).alloc (Nat.le_refl _) (.cells #[.func (.func 123) #[] #[]] 40);have AL:=aA hal;have hB:=hO.out.1;have S1:=aA (fQ (hal.mono hB) h1.out);have hlen:=dZ l;have hmf:∀ (fn:Fn) (first cap:Array Value) (w:World),(Instr.makeFunc fn first cap).run Tryz.prog w=.ok (.func fn first cap) w:=fun _ _ _ _=>rfl
 by_cases hl:l.length≤m
 ·have d:decide ((l.length:Int)≤(m:Int))=true:=decide_eq_true (by omega);have H:=aA (show (decide (l.length≤m)&&!l.any fun x=>!rightN x 1)=!l.any fun x=>!rightN x 1 by rw [decide_eq_true hl,Bool.true_and]);have CL:Hid (KN (fun x=>!rightN x 1) B (.pointer (some ⟨w.heap.size,0,none⟩)) l (w.alloc (.cells #[.func (.func 123) #[] #[]] 40))):=by
   intro x hxl w' nv kv hb hin;have hcm:=jM hxl;have hz:=hb.size;simp only [World.size_alloc] at hz;exact Ph x (hx x hxl) B w' nv kv w.heap.size (aA (aR hO.out ((hal.mono hB).trans (hb.mono (by simp;omega))))) hin (hs x hxl) (by omega) (bF hb (by simp) (by simp)) (by omega)
  clear hal h1 hO hx hs d;go_enter Tryz.func85,Tryz.ntmps85;go_wp2_with fail;refine (xS (fun x=>!rightN x 1) B _ _ _ l (by simp;omega) S1 (by omega) CL).mono ?_;rintro e w1 ⟨rfl,b1⟩;have B1:=aA (aG AL.out (by simp) b1);clear b1 AL S1 CL;go_wp2_with fail;go_ret;exact⟨by rw [H.out];rfl,B1.out⟩
 ·have d:decide ((l.length:Int)≤(m:Int))=false:=decide_eq_false (by omega);have H:=aA (show (decide (l.length≤m)&&!l.any fun x=>!rightN x 1)=false by rw [decide_eq_false hl,Bool.false_and]);clear hal h1 hO hx hs d;go_enter Tryz.func85,Tryz.ntmps85;go_wp2_with fail;go_ret;exact⟨by rw [H.out];rfl,AL.out⟩
def uC (x:Nd):Prop:=∀ (B:Nat) (w:World) (nv kv:Value),Hid (Ok B w)→Hid (jS B w x nv kv)→dL x=true→bM x≤1000000→
  Calls Tryz.prog 86 #[.agg #[.int .i64 x.kind,.int .i64 x.op,.int .i64 x.num,.string x.str,nv,kv,.int .i64 x.pl]] w fun e w'=>
   e=.returned (.bool (rightN x 2))∧Below w.heap.size w w'
theorem Pi (x:Nd) (hx:uC x) (B:Nat) (w:World) (nv kv:Value) (g:Nat) (hO:Hid (Ok B w)) (hN:Hid (jS B w x nv kv)) (hs:dL x=true) (hc:bM x≤1000000) (hg:w.cell? ⟨g,0,none⟩=some (.func (.func 86) #[] #[])) (hgw:g<w.heap.size) :
  Calls Tryz.prog 119 #[.agg #[.int .i64 x.kind,.int .i64 x.op,.int .i64 x.num,.string x.str,nv,kv,.int .i64 x.pl],.pointer (some ⟨g,0,none⟩)] w fun e w'=>
   e=.returned (.bool (!rightN x 2))∧Below w.heap.size w w':=by
 obtain⟨a1,q1,a2,q2,rfl,rfl⟩:=cC hN.out;have hal:=(Below.refl w.heap.size w).alloc (Nat.le_refl _) (.cells #[.int .i64 x.kind,.int .i64 x.op,.int .i64 x.num,.string x.str,.slice a1 x.names.length q1,.slice a2 x.kids.length q2,.int .i64 x.pl] 26);have AL:=aA hal;have N:=aA (eQ (hal.mono hO.out.1) _ _ _ hN.out);have O:=aA (aR hO.out (hal.mono hO.out.1));have HX:=aA hx;have HS:=aA hs;clear hal hN hx hO hs;go_enter Tryz.func119,Tryz.ntmps119;go_wp2_with fail;refine (HX.out B _ _ _ O N HS.out hc).mono ?_;rintro e w1 ⟨rfl,b1⟩;have B1:=aA (aG AL.out (by simp) b1);clear b1 AL N O;go_wp2_with fail;go_ret;exact⟨rfl,B1.out⟩
theorem Pj (B:Nat) (w:World) (v:Value) (l:List Nd) (m:Nat) (hO:Hid (Ok B w)) (h1:Hid (dI B w v l)) (hs:∀ x∈l,dL x=true) (hc:bW l≤1000000) (hx:∀ x∈l,uC x) :
  Calls Tryz.prog 85 #[v,.int .i64 m,.func (.func 86) #[] #[]] w fun e w'=>e=.returned (.bool (decide (l.length≤m)&&!l.any fun x=>!rightN x 2))∧Below w.heap.size w w':=by
 obtain⟨ao,cap,rfl,_⟩:=eA h1.out;have hal:=(Below.refl w.heap.size w).alloc (Nat.le_refl _) (.cells #[.func (.func 86) #[] #[]] 40);have AL:=aA hal;have hB:=hO.out.1;have S1:=aA (fQ (hal.mono hB) h1.out);have hlen:=dZ l;have hmf:∀ (fn:Fn) (first cap:Array Value) (w:World),(Instr.makeFunc fn first cap).run Tryz.prog w=.ok (.func fn first cap) w:=fun _ _ _ _=>rfl
 by_cases hl:l.length≤m
 ·have d:decide ((l.length:Int)≤(m:Int))=true:=decide_eq_true (by omega);have H:=aA (show (decide (l.length≤m)&&!l.any fun x=>!rightN x 2)=!l.any fun x=>!rightN x 2 by rw [decide_eq_true hl,Bool.true_and]);have CL:Hid (KN (fun x=>!rightN x 2) B (.pointer (some ⟨w.heap.size,0,none⟩)) l (w.alloc (.cells #[.func (.func 86) #[] #[]] 40))):=by
   intro x hxl w' nv kv hb hin;have hcm:=jM hxl;have hz:=hb.size;simp only [World.size_alloc] at hz;exact Pi x (hx x hxl) B w' nv kv w.heap.size (aA (aR hO.out ((hal.mono hB).trans (hb.mono (by simp;omega))))) hin (hs x hxl) (by omega) (bF hb (by simp) (by simp)) (by omega)
  clear hal h1 hO hx hs d;go_enter Tryz.func85,Tryz.ntmps85;go_wp2_with fail;refine (xS (fun x=>!rightN x 2) B _ _ _ l (by simp;omega) S1 (by omega) CL).mono ?_;rintro e w1 ⟨rfl,b1⟩;have B1:=aA (aG AL.out (by simp) b1);clear b1 AL S1 CL;go_wp2_with fail;go_ret;exact⟨by rw [H.out];rfl,B1.out⟩
 ·have d:decide ((l.length:Int)≤(m:Int))=false:=decide_eq_false (by omega);have H:=aA (show (decide (l.length≤m)&&!l.any fun x=>!rightN x 2)=false by rw [decide_eq_false hl,Bool.false_and]);clear hal h1 hO hx hs d;go_enter Tryz.func85,Tryz.ntmps85;go_wp2_with fail;go_ret;exact⟨by rw [H.out];rfl,AL.out⟩
def Aw (x:Nd):Prop:=∀ (B:Nat) (w:World) (nv kv:Value),Hid (Ok B w)→Hid (jS B w x nv kv)→dL x=true→bM x≤1000000→
  Calls Tryz.prog 34 #[.agg #[.int .i64 x.kind,.int .i64 x.op,.int .i64 x.num,.string x.str,nv,kv,.int .i64 x.pl]] w fun e w'=>
   e=.returned (.bool (rightN x 3))∧Below w.heap.size w w'
theorem uD (B:Nat) (w:World) (v:Value) (l:List Nd) (hO:Hid (Ok B w)) (h1:Hid (dI B w v l)) (hs:∀ x∈l,dL x=true) (hc:bW l≤1000000) (hx:∀ x∈l,uC x) :
  Calls Tryz.prog 61 #[v] w fun e w'=>e=.returned (.bool (decide (l.length≤40)&&!l.any fun x=>!rightN x 2))∧Below w.heap.size w w':=by
 have key:=aA (Pj B w v l 40 hO h1 hs hc hx);clear hO h1 hs hc hx;go_enter Tryz.func61,Tryz.ntmps61;go_wp2_with fail;refine key.out.mono ?_;rintro e w1 ⟨rfl,b1⟩;go_wp2_with fail;go_ret;exact⟨rfl,b1⟩
theorem cO (B:Nat) (w:World) (v:Value) (l:List Nd) (m:Nat) (hO:Hid (Ok B w)) (h1:Hid (dI B w v l)) (hs:∀ x∈l,dL x=true) (hc:bW l≤1000000) (hx:∀ x∈l,sC x) :
  Calls Tryz.prog 121 #[v,.int .i64 m] w fun e w'=>e=.returned (.bool (decide (l.length=m)&&!l.any fun x=>!rightN x 1))∧Below w.heap.size w w':=by
 have key:=aA (BU B w v l m hO h1 hs hc hx);obtain⟨ao,cap,rfl,_⟩:=eA h1.out;clear hO h1 hs hc hx;by_cases hl:l.length=m
 ·have d:((l.length:Int)==(m:Int))=true:=beq_iff_eq.2 (by omega);have H:=aA (show (decide (l.length=m)&&!l.any fun x=>!rightN x 1)=(decide (l.length≤m)&&!l.any fun x=>!rightN x 1) by rw [decide_eq_true hl,decide_eq_true (by omega)]);clear hl;go_enter Tryz.func121,Tryz.ntmps121;go_wp2_with fail;refine key.out.mono ?_;rintro e w1 ⟨rfl,b1⟩;rw [← H.out];go_wp2_with fail;go_ret;exact⟨rfl,b1⟩
 ·have d:((l.length:Int)==(m:Int))=false:=beq_eq_false_iff_ne.2 (by omega);have H:=aA (show (decide (l.length=m)&&!l.any fun x=>!rightN x 1)=false by rw [decide_eq_false hl,Bool.false_and]);clear hl;go_enter Tryz.func121,Tryz.ntmps121;go_wp2_with fail;go_ret;exact⟨by rw [H.out];rfl,Below.refl _ _⟩
theorem xU (B:Nat) (w:World) (v:Value) (l:List Nd) (hO:Hid (Ok B w)) (h1:Hid (dI B w v l)) (hs:∀ x∈l,dL x=true) (hc:bW l≤1000000) (hx:∀ x∈l,sC x) :
  Calls Tryz.prog 153 #[v] w fun e w'=>e=.returned (.bool (decide (1≤l.length∧l.length≤7)&&!l.any fun x=>!rightN x 1))∧Below w.heap.size w w':=by
 have key:=aA (BU B w v l 7 hO h1 hs hc hx);obtain⟨ao,cap,rfl,_⟩:=eA h1.out;clear hO h1 hs hc hx;by_cases hl:0<l.length
 ·have d:decide ((0:Int)<(l.length:Int))=true:=decide_eq_true (by omega);have H:=aA (show (decide (1≤l.length∧l.length≤7)&&!l.any fun x=>!rightN x 1)=(decide (l.length≤7)&&!l.any fun x=>!rightN x 1) by
   congr 1;rw [Bool.eq_iff_iff,decide_eq_true_iff,decide_eq_true_iff];omega)
  clear d;go_enter Tryz.func153,Tryz.ntmps153;go_wp2_with fail;refine key.out.mono ?_;rintro e w1 ⟨rfl,b1⟩;go_wp2_with fail;go_ret;exact⟨by rw [H.out];rfl,b1⟩
 ·have d:decide ((0:Int)<(l.length:Int))=false:=decide_eq_false (by omega);have H:=aA (show (decide (1≤l.length∧l.length≤7)&&!l.any fun x=>!rightN x 1)=false by rw [decide_eq_false (by omega),Bool.false_and]);clear d;go_enter Tryz.func153,Tryz.ntmps153;go_wp2_with fail;go_ret;exact⟨by rw [H.out];rfl,Below.refl _ _⟩
end Go.Proofs.YtdnnmjhfidimcaaGreatDoor
