/- A node held against its bare copy; whether a node is right as a block. Whether a node is right as an expression. Whether a node is right as a statement. -/
import Derived.Test.YtdnnmjhfidimcaaGreatDoorJoint12
import Derived.Test.YtdnnmjhfidimcaaGreatDoorJoint27
import Derived.Deep.RegionHeld3
import Derived.Deep.RegionWith
namespace Go.Proofs.YtdnnmjhfidimcaaGreatDoor
set_option maxHeartbeats 6400000
set_option maxRecDepth 100000
open Go.RowKit
theorem lU (B:Nat) (w:World) (k o n:Int) (s:ByteArray) (ns:List ByteArray) (a1:Option Addr) (q1:Nat) (a2:Option Addr) (c2 q2:Nat) (p:Int) (hB:B≤w.heap.size) (hS:Hid (cA B (.slice a1 ns.length q1) ns w)) :
  Calls Tryz.prog 60 #[.agg #[.int .i64 k,.int .i64 o,.int .i64 n,.string s,.slice a1 ns.length q1,.slice a2 c2 q2,.int .i64 p]] w fun e w'=>
   ∃ x1 y1 z1 x2 z2,e=.returned (.agg #[.int .i64 k,.int .i64 (cond (dC k) o 0),.int .i64 (cond (cC k) n 0),.string (cond (cG k) s ⟨#[]⟩),.slice x1 y1 z1,.slice x2 (cond (eQ k) 0 c2) z2,.int .i64 0])∧
    Hid (cA B (.slice x1 y1 z1) (cond (cS k) ns []) w')∧Below w.heap.size w w':=by
 refine (Hs w k o n s a1 ns.length q1 a2 c2 q2 p).mono ?_;rintro e w1 ⟨rfl,b1⟩;have h1:∃ x1 y1 z1,cond (cS k) (.slice a1 ns.length q1) (.slice none 0 0)=Value.slice x1 y1 z1∧cA B (.slice x1 y1 z1) (cond (cS k) ns []) w1:=by
  cases cS k
  ·exact⟨none,0,0,rfl,.inl ⟨none,0,rfl,rfl⟩⟩
  ·exact⟨a1,ns.length,q1,rfl,eB hS.out (b1.mono hB)⟩
 have h2:∃ x2 z2,cond (eQ k) (.slice none 0 0) (.slice a2 c2 q2)=Value.slice x2 (cond (eQ k) 0 c2) z2:=by
  cases eQ k
  ·exact⟨a2,q2,rfl⟩
  ·exact⟨none,0,rfl⟩
 obtain⟨x1,y1,z1,e1,h3⟩:=h1;obtain⟨x2,z2,e2⟩:=h2;exact⟨x1,y1,z1,x2,z2,by rw [e1,e2],h3,b1⟩
theorem mZ (B:Nat) (w:World) (k o n:Int) (s:ByteArray) (ns:List ByteArray) (a1:Option Addr) (q1:Nat) (a2:Option Addr) (c2 q2:Nat) (p:Int) (x1:Option Addr) (y1 z1:Nat) (x2:Option Addr) (z2:Nat) (hB:B≤w.heap.size)
  (hS:cA B (.slice a1 ns.length q1) ns w) (hS':cA B (.slice x1 y1 z1) (cond (cS k) ns []) w) (hc:ns.length≤1000000) :
  Calls Tryz.prog 31 #[.agg #[.int .i64 k,.int .i64 o,.int .i64 n,.string s,.slice a1 ns.length q1,.slice a2 c2 q2,.int .i64 p],
    .agg #[.int .i64 k,.int .i64 (cond (dC k) o 0),.int .i64 (cond (cC k) n 0),.string (cond (cG k) s ⟨#[]⟩),.slice x1 y1 z1,.slice x2 (cond (eQ k) 0 c2) z2,.int .i64 0]] w fun e w'=>
   e=.returned (.bool (fP k o n s ns c2))∧Below w.heap.size w w':=
 xY B w k o n s ns _ _ _ _ p k _ _ _ _ _ _ _ _ 0 hB (aA hS) (aA hS') hc
theorem gQ {w a c:World} {B g:Nat} {k o n:Int} {s:ByteArray} {nv kv:Value} {p:Int} {ns:List ByteArray} {ks:List Nd}
  (h:(Below w.heap.size w a∧mL g k o n s nv kv p a∧Ok B a∧cA B nv ns a∧dA B a kv ks)∧a.cell? ⟨g,0,none⟩=some (.int .i64 k)∧a.cell? ⟨g,1,none⟩=some (.int .i64 o)∧a.cell? ⟨g,2,none⟩=some (.int .i64 n)∧a.cell? ⟨g,3,none⟩=some (.string s)∧
   a.cell? ⟨g,4,none⟩=some nv∧a.cell? ⟨g,5,none⟩=some kv∧a.cell? ⟨g,6,none⟩=some (.int .i64 p)) (q:Below a.heap.size a c) :
  (Below w.heap.size w c∧mL g k o n s nv kv p c∧Ok B c∧cA B nv ns c∧dA B c kv ks)∧c.cell? ⟨g,0,none⟩=some (.int .i64 k)∧c.cell? ⟨g,1,none⟩=some (.int .i64 o)∧c.cell? ⟨g,2,none⟩=some (.int .i64 n)∧c.cell? ⟨g,3,none⟩=some (.string s)∧
   c.cell? ⟨g,4,none⟩=some nv∧c.cell? ⟨g,5,none⟩=some kv∧c.cell? ⟨g,6,none⟩=some (.int .i64 p):=by
 obtain⟨⟨h1,h2,h3,h4,h5⟩,_⟩:=h;have q':=q.mono h3.1;have hx:=nR h2 q;exact⟨⟨aH h1 (Nat.le_refl _) q,hx,aR h3 q',eB h4 q',dV q' h5⟩,aJ hx⟩
theorem wY {w:World} {B:Nat} {k o n:Int} {s:ByteArray} {nv kv:Value} {p:Int} {ns:List ByteArray} {ks:List Nd} (hO:Ok B w) (hS:cA B nv ns w) (hK:dA B w kv ks) :
  (fun a:World=>(Below w.heap.size w a∧mL w.heap.size k o n s nv kv p a∧Ok B a∧cA B nv ns a∧dA B a kv ks)∧a.cell? ⟨w.heap.size,0,none⟩=some (.int .i64 k)∧a.cell? ⟨w.heap.size,1,none⟩=some (.int .i64 o)∧a.cell? ⟨w.heap.size,2,none⟩=some (.int .i64 n)∧a.cell? ⟨w.heap.size,3,none⟩=some (.string s)∧
   a.cell? ⟨w.heap.size,4,none⟩=some nv∧a.cell? ⟨w.heap.size,5,none⟩=some kv∧a.cell? ⟨w.heap.size,6,none⟩=some (.int .i64 p)) (w.alloc (.cells #[.int .i64 k,.int .i64 o,.int .i64 n,.string s,nv,kv,.int .i64 p] 26)):=by
 have hal:=(Below.refl w.heap.size w).alloc (Nat.le_refl _) (.cells #[.int .i64 k,.int .i64 o,.int .i64 n,.string s,nv,kv,.int .i64 p] 26);have q':=hal.mono hO.1;have hx:=cH w k o n s nv kv p;exact⟨⟨hal,hx,aR hO q',eB hS q',dV q' hK⟩,aJ hx⟩
theorem mI {w a:World} {B g:Nat} {k o n:Int} {s:ByteArray} {nv kv:Value} {p:Int} {ns:List ByteArray} {ks:List Nd} {R:Prop} (h:(Below w.heap.size w a∧mL g k o n s nv kv p a∧Ok B a∧cA B nv ns a∧dA B a kv ks)∧R):B≤a.heap.size:=h.1.2.2.1.1
theorem QE {w a:World} {B g:Nat} {k o n:Int} {s:ByteArray} {nv kv:Value} {p:Int} {ns:List ByteArray} {ks:List Nd} {R:Prop} (h:(Below w.heap.size w a∧mL g k o n s nv kv p a∧Ok B a∧cA B nv ns a∧dA B a kv ks)∧R):Hid (Ok B a):=h.1.2.2.1
theorem mJ {w a:World} {B g:Nat} {k o n:Int} {s:ByteArray} {nv kv:Value} {p:Int} {ns:List ByteArray} {ks:List Nd} {R:Prop} (h:(Below w.heap.size w a∧mL g k o n s nv kv p a∧Ok B a∧cA B nv ns a∧dA B a kv ks)∧R):cA B nv ns a:=h.1.2.2.2.1
theorem OP {w a:World} {B g:Nat} {k o n:Int} {s:ByteArray} {nv kv:Value} {p:Int} {ns:List ByteArray} {ks:List Nd} {R:Prop} (h:(Below w.heap.size w a∧mL g k o n s nv kv p a∧Ok B a∧cA B nv ns a∧dA B a kv ks)∧R):Hid (dA B a kv ks):=h.1.2.2.2.2
theorem Hw (k o n:Int) (s:ByteArray) (ns:List ByteArray) (ks:List Nd) (p:Int) (ih:∀ x∈ks,sR x):yS (.mk k o n s ns ks p):=by
 intro B w nv kv hO hN hsm hc;obtain⟨_,hns,_,hsk⟩:=lC hsm;simp only [bH] at hc;obtain⟨hs1,hk1⟩:=ndIn_mk.1 hN.out;obtain⟨a1,q1,a2,q2,rfl,rfl⟩:=bY hN.out;simp only [Nd.kind,Nd.op,Nd.num,Nd.str,Nd.pl,Nd.names,Nd.kids] at *
 have NEW:=aA (wY (k:=k) (o:=o) (n:=n) (s:=s) (p:=p) hO.out hs1 hk1);have IH:=aA ih;clear hO hN hs1 hk1 hsm ih;by_cases hk:k=29
 ·subst hk;have HR:=aA (Jq o n s ns ks p);have SK:=aA hsk;clear hsk;cases hbb:fP 29 o n s ns ks.length with
  | false=>
   have HB:=aA hbb;have H:=aA (show rightN (.mk 29 o n s ns ks p) 3=false by rw [HR.out,hbb];rfl);have NEW2:=aA (gQ NEW.out (Below.refl _ _).drew);clear hbb HR NEW;go_enter Tryz.func34,Tryz.ntmps34;go_wp2_with fail
   first | go_region_with (first
     | (go_at_call 60;refine (lU B _ 29 o n s ns a1 q1 a2 ks.length q2 p (mI NEW2.out) (aA (mJ NEW2.out))).mono ?_;rintro e wx ⟨x1,y1,z1,x2,z2,rfl,hst,bb⟩;obtain⟨⟨zb,zx,zo,zs,zk⟩,f0,f1,f2,f3,f4,f5,f6⟩:=gQ NEW2.out bb)
     | (go_at_call 31;refine (mZ B _ 29 o n s ns a1 q1 a2 ks.length q2 p _ _ _ _ _ zo.1 zs hst.out (by omega)).mono ?_;rintro e wy ⟨he,bc⟩;rw [HB.out] at he;subst he)) | fail
   all_goals
    have Z:=aA (aH zb (Nat.le_refl _) bc);clear zb zx zo zs zk;go_wp2_with fail;go_ret;exact⟨by rw [H.out];rfl,Z.out⟩
  | true=>
   have HB:=aA hbb;have H:=aA (show rightN (.mk 29 o n s ns ks p) 3=(decide (ks.length≤40)&&!ks.any fun x=>!rightN x 2) by rw [HR.out,hbb];rfl);clear hbb HR;go_enter Tryz.func34,Tryz.ntmps34;go_wp2_with fail;go_region_held3 (fun a=>(Below w.heap.size w a∧mL w.heap.size 29 o n s (.slice a1 ns.length q1) (.slice a2 ks.length q2) p a∧Ok B a∧cA B (.slice a1 ns.length q1) ns a∧dA B a (.slice a2 ks.length q2) ks)∧a.cell? ⟨w.heap.size,0,none⟩=some (.int .i64 29)∧a.cell? ⟨w.heap.size,1,none⟩=some (.int .i64 o)∧a.cell? ⟨w.heap.size,2,none⟩=some (.int .i64 n)∧a.cell? ⟨w.heap.size,3,none⟩=some (.string s)∧
     a.cell? ⟨w.heap.size,4,none⟩=some (.slice a1 ns.length q1)∧a.cell? ⟨w.heap.size,5,none⟩=some (.slice a2 ks.length q2)∧a.cell? ⟨w.heap.size,6,none⟩=some (.int .i64 p))
    (first | exact gQ (by assumption) bb | exact gQ NEW.out (Below.refl _ _).drew | exact gQ (by assumption) (Below.refl _ _).drew)
    (first
     | (go_at_call 60;refine (lU B _ 29 o n s ns a1 q1 a2 ks.length q2 p (mI (by assumption)) (aA (mJ (by assumption)))).mono ?_;rintro e wx ⟨x1,y1,z1,x2,z2,rfl,hst,bb⟩)
     | (go_at_call 31;refine (mZ B _ 29 o n s ns a1 q1 a2 ks.length q2 p _ _ _ _ _ (mI (by assumption)) (mJ (by assumption)) hst.out (by omega)).mono ?_;rintro e wx ⟨he,bb⟩;rw [HB.out] at he;subst he)
     | (go_at_call 61;refine (sS B _ _ ks (QE (by assumption)) (OP (by assumption)) SK.out (by omega) IH.out).mono ?_;rintro e wx ⟨he,bb⟩;rw [← H.out] at he;subst he))
   rename_i hz;have Z:=aA hz.1.1;clear hz;go_wp2_with fail;go_ret;exact⟨rfl,Z.out⟩
 ·have ek:(k==29)=false:=beq_eq_false_iff_ne.2 hk;have H:=aA (show rightN (.mk k o n s ns ks p) 3=false by
   rw [aQ];have:(jS k==3)=false:=DB hk;rw [this];rfl)
  have c0:(w.alloc (.cells #[.int .i64 k,.int .i64 o,.int .i64 n,.string s,.slice a1 ns.length q1,.slice a2 ks.length q2,.int .i64 p] 26)).drew.cell? ⟨w.heap.size,0,none⟩=some (.int .i64 k):=by simp
  clear hk;go_enter Tryz.func34,Tryz.ntmps34;go_wp2_with fail;go_region;all_goals
   go_wp2_with fail;go_ret;exact⟨by rw [H.out];rfl,NEW.out.1.1.drew⟩
theorem uP {k o n:Int} {s:ByteArray} {ns:List ByteArray} {ks:List Nd} {p:Int} {a:Nat} (h:fP k o n s ns ks.length=false):rightN (.mk k o n s ns ks p) a=false:=by
 rw [aQ];have:kD k o n s ns ks.length=false:=by
  cases hq:kD k o n s ns ks.length with
  | false=>rfl
  | true=>
   exfalso;rw [cW] at h;unfold kD at hq;simp only [Bool.and_eq_true] at hq;obtain⟨h1,h2,h3,h4,h5⟩:=hq;have g1:cond (dC k) true (decide (o=0))=true:=by unfold cT at h1;unfold dC;grind
   have g2:cond (cC k) true (decide (n=0))=true:=by unfold bQ at h2;unfold cC;grind
   have g3:cond (cG k) true (decide (s.size=0))=true:=by unfold bM at h3;unfold cG;grind
   have g4:cond (cS k) true (decide (ns.length=0))=true:=by unfold cR at h4;unfold cS;grind
   have g5:cond (eQ k) (decide (ks.length=0)) true=true:=by unfold bN at h5;unfold eQ;grind
   rw [g1,g2,g3,g4,g5] at h;cases h
 rw [this];simp
theorem Lm (k o n:Int) (s:ByteArray) (ns:List ByteArray) (ks:List Nd) (p:Int) (ihe:∀ x∈ks,qX x) (ihs:∀ x∈ks,sR x):qX (.mk k o n s ns ks p):=by
 intro B w nv kv hO hN hsm hc;obtain⟨hs6,hns,_,hsk⟩:=lC hsm;simp only [bH] at hc;obtain⟨hs1,hk1⟩:=ndIn_mk.1 hN.out;obtain⟨a1,q1,a2,q2,rfl,rfl⟩:=bY hN.out;simp only [Nd.kind,Nd.op,Nd.num,Nd.str,Nd.pl,Nd.names,Nd.kids] at *
 have NEW:=aA (wY (k:=k) (o:=o) (n:=n) (s:=s) (p:=p) hO.out hs1 hk1);have IE:=aA ihe;have IS:=aA ihs;have SK:=aA hsk;have hlen:=dW ks;clear hO hN hs1 hk1 hsm ihe ihs hsk;cases hbb:fP k o n s ns ks.length with
 | false=>
  have HB:=aA hbb;have H:=aA (uP (a:=1) (p:=p) hbb);clear hbb;go_enter Tryz.func123,Tryz.ntmps123;go_wp2_with fail;go_region_held3 (fun a=>(Below w.heap.size w a∧mL w.heap.size k o n s (.slice a1 ns.length q1) (.slice a2 ks.length q2) p a∧Ok B a∧cA B (.slice a1 ns.length q1) ns a∧dA B a (.slice a2 ks.length q2) ks)∧a.cell? ⟨w.heap.size,0,none⟩=some (.int .i64 k)∧a.cell? ⟨w.heap.size,1,none⟩=some (.int .i64 o)∧a.cell? ⟨w.heap.size,2,none⟩=some (.int .i64 n)∧a.cell? ⟨w.heap.size,3,none⟩=some (.string s)∧
     a.cell? ⟨w.heap.size,4,none⟩=some (.slice a1 ns.length q1)∧a.cell? ⟨w.heap.size,5,none⟩=some (.slice a2 ks.length q2)∧a.cell? ⟨w.heap.size,6,none⟩=some (.int .i64 p))
   (first | exact gQ (by assumption) bb | exact gQ NEW.out (Below.refl _ _).drew | exact gQ (by assumption) (Below.refl _ _).drew)
   (first
    | (go_at_call 60;refine (lU B _ k o n s ns a1 q1 a2 ks.length q2 p (mI (by assumption)) (aA (mJ (by assumption)))).mono ?_;rintro e wx ⟨x1,y1,z1,x2,z2,rfl,hst,bb⟩)
    | (go_at_call 31;refine (mZ B _ k o n s ns a1 q1 a2 ks.length q2 p _ _ _ _ _ (mI (by assumption)) (mJ (by assumption)) hst.out (by omega)).mono ?_;rintro e wx ⟨he,bb⟩;rw [HB.out] at he;subst he))
  rename_i hz;have Z:=aA hz.1.1;clear hz;go_wp2_with fail;go_ret;exact⟨by rw [H.out];rfl,Z.out⟩
 | true=>
  have HB:=aA hbb;clear hbb;go_enter Tryz.func123,Tryz.ntmps123;go_wp2_with fail;go_region_held3 (fun a=>(Below w.heap.size w a∧mL w.heap.size k o n s (.slice a1 ns.length q1) (.slice a2 ks.length q2) p a∧Ok B a∧cA B (.slice a1 ns.length q1) ns a∧dA B a (.slice a2 ks.length q2) ks)∧a.cell? ⟨w.heap.size,0,none⟩=some (.int .i64 k)∧a.cell? ⟨w.heap.size,1,none⟩=some (.int .i64 o)∧a.cell? ⟨w.heap.size,2,none⟩=some (.int .i64 n)∧a.cell? ⟨w.heap.size,3,none⟩=some (.string s)∧
     a.cell? ⟨w.heap.size,4,none⟩=some (.slice a1 ns.length q1)∧a.cell? ⟨w.heap.size,5,none⟩=some (.slice a2 ks.length q2)∧a.cell? ⟨w.heap.size,6,none⟩=some (.int .i64 p))
   (first | exact gQ (by assumption) bb | exact gQ NEW.out (Below.refl _ _).drew | exact gQ (by assumption) (Below.refl _ _).drew)
   (first
    | (go_at_call 60;refine (lU B _ k o n s ns a1 q1 a2 ks.length q2 p (mI (by assumption)) (aA (mJ (by assumption)))).mono ?_;rintro e wx ⟨x1,y1,z1,x2,z2,rfl,hst,bb⟩)
    | (go_at_call 31;refine (mZ B _ k o n s ns a1 q1 a2 ks.length q2 p _ _ _ _ _ (mI (by assumption)) (mJ (by assumption)) hst.out (by omega)).mono ?_;rintro e wx ⟨he,bb⟩;rw [HB.out] at he;subst he))
  rename_i hz;obtain⟨⟨zb,zx,zo,zs,zk⟩,c0,c1,c2,c3,c4,c5,c6⟩:=hz;have Z:=aA zb;have ZX:=aA zx;have ZO:=aA zo;have ZS:=aA zs;have ZK:=aA zk;clear zb zx zo zs zk NEW;by_cases hk1:k=1
  ·subst hk1;have H:=aA (show rightN (.mk 1 o n s ns ks p) 1=true by rw [Qm o n s ns ks p,HB.out,Bool.true_and]);go_wp2_with fail;go_ret;exact⟨by rw [H.out];rfl,Z.out⟩
  by_cases hk2:k=2
  ·subst hk2;have H:=aA (show rightN (.mk 2 o n s ns ks p) 1=(decide (n=0)||decide (n=1)) by rw [NC o n s ns ks p,HB.out,Bool.true_and]);rcases (show n=0∨n=1∨(n≠0∧n≠1) from by omega) with rfl | rfl | ⟨h0,h1⟩
   ·go_wp2_with fail;go_ret;exact⟨by rw [H.out];rfl,Z.out⟩
   ·go_wp2_with fail;go_ret;exact⟨by rw [H.out];rfl,Z.out⟩
   ·have e0:(n==0)=false:=beq_eq_false_iff_ne.2 h0;have e1:(n==1)=false:=beq_eq_false_iff_ne.2 h1;rw [decide_eq_false h0,decide_eq_false h1] at H;clear h0 h1;go_wp2_with fail;go_ret;exact⟨by rw [H.out];rfl,Z.out⟩
  by_cases hk3:k=3
  ·subst hk3;have H:=aA (show rightN (.mk 3 o n s ns ks p) 1=(decide (0≤n)&&decide (n≤4611686018427387903)) by rw [ND o n s ns ks p,HB.out,Bool.true_and]);by_cases h0:0≤n
   ·have d0:decide (0≤n)=true:=decide_eq_true h0;rw [d0] at H;go_wp2_with fail;go_ret;exact⟨by rw [H.out];rfl,Z.out⟩
   ·have d0:decide (0≤n)=false:=decide_eq_false h0;rw [d0] at H;go_wp2_with fail;go_ret;exact⟨by rw [H.out];rfl,Z.out⟩
  by_cases hk4:k=4
  ·subst hk4;have H:=aA (show rightN (.mk 4 o n s ns ks p) 1=decide (s.size≤256) by rw [Qo o n s ns ks p,HB.out,Bool.true_and]);by_cases h0:s.size≤256
   ·rw [decide_eq_true h0] at H;have d4:decide ((s.size:Int)≤256)=true:=decide_eq_true (by omega);go_wp2_with fail;go_ret;exact⟨by rw [H.out];rfl,Z.out⟩
   ·rw [decide_eq_false h0] at H;have d4:decide ((s.size:Int)≤256)=false:=decide_eq_false (by omega);go_wp2_with fail;go_ret;exact⟨by rw [H.out];rfl,Z.out⟩
  by_cases hk5:k=5
  ·subst hk5;have H:=aA (show rightN (.mk 5 o n s ns ks p) 1=properB s by rw [NE o n s ns ks p,HB.out,Bool.true_and]);go_wp2_with fail;refine (nE s _).mono ?_;rintro e wz ⟨rfl,rfl⟩;go_wp2_with fail;go_ret;exact⟨by rw [H.out];rfl,Z.out⟩
  by_cases hk6:k=6
  ·subst hk6;have H:=aA (show rightN (.mk 6 o n s ns ks p) 1=true by rw [Qn o n s ns ks p,HB.out,Bool.true_and]);go_wp2_with fail;go_ret;exact⟨by rw [H.out];rfl,Z.out⟩
  by_cases hk7:k=7
  ·subst hk7;have H:=aA (show rightN (.mk 7 o n s ns ks p) 1=(decide (ns.length=ks.length)&&((decide (ns.length≤40)&&ns.all dH)&&(decide (ks.length≤40)&&(!ks.any fun x=>!rightN x 1)))) by rw [NF o n s ns ks p,HB.out,Bool.true_and]);by_cases hl:ns.length=ks.length
   ·have e0:((ns.length:Int)==(ks.length:Int))=true:=beq_iff_eq.2 (by omega);rw [decide_eq_true hl,Bool.true_and] at H;clear hl;go_wp2_with fail;refine (EU B _ _ ns 40 ZO.out.1 ZS (by omega)).mono ?_;rintro e wy ⟨rfl,b1⟩;have Z1:=aA (aH Z.out (Nat.le_refl _) b1);have bq:=b1.mono ZO.out.1;have X1:=nR ZX.out b1;obtain⟨d0,d1,d2,d3,d4,d5,d6⟩:=aJ X1;have O1:=aA (aR ZO.out bq);have K1:=aA (dV bq ZK.out);clear b1 bq X1;generalize (decide (ns.length≤40)&&ns.all dH)=nb at *
    cases nb
    ·go_wp2_with fail;go_ret;exact⟨by rw [H.out];rfl,Z1.out⟩
    ·go_wp2_with fail;refine (AK B _ _ ks 40 O1 K1 SK.out (by omega) IE.out).mono ?_;rintro e wz ⟨rfl,bz⟩;have ZZ:=aA (aH Z1.out (Nat.le_refl _) bz);clear bz;go_wp2_with fail;go_ret;exact⟨by rw [H.out];rfl,ZZ.out⟩
   ·have e0:((ns.length:Int)==(ks.length:Int))=false:=beq_eq_false_iff_ne.2 (by omega);rw [decide_eq_false hl,Bool.false_and] at H;clear hl;go_wp2_with fail;go_ret;exact⟨by rw [H.out];rfl,Z.out⟩
  by_cases hk8:k=8
  ·subst hk8;have H:=aA (show rightN (.mk 8 o n s ns ks p) 1=((decide (ns.length≤6)&&ns.all properB)&&(decide (ks.length≤40)&&(!ks.any fun x=>!rightN x 2))) by rw [NG o n s ns ks p,HB.out,Bool.true_and]);go_wp2_with fail;refine (Bo B _ _ ns 6 ZO.out.1 ZS (by omega)).mono ?_;rintro e wy ⟨rfl,b1⟩;have Z1:=aA (aH Z.out (Nat.le_refl _) b1);have bq:=b1.mono ZO.out.1;have X1:=nR ZX.out b1;obtain⟨d0,d1,d2,d3,d4,d5,d6⟩:=aJ X1;have O1:=aA (aR ZO.out bq);have K1:=aA (dV bq ZK.out);clear b1 bq X1;generalize (decide (ns.length≤6)&&ns.all properB)=nb at *
   cases nb
   ·go_wp2_with fail;go_ret;exact⟨by rw [H.out];rfl,Z1.out⟩
   ·go_wp2_with fail;refine (sS B _ _ ks O1 K1 SK.out (by omega) IS.out).mono ?_;rintro e wz ⟨rfl,bz⟩;have ZZ:=aA (aH Z1.out (Nat.le_refl _) bz);clear bz;go_wp2_with fail;go_ret;exact⟨by rw [H.out];rfl,ZZ.out⟩
  by_cases hk9:k=9
  ·subst hk9;have H:=aA (show rightN (.mk 9 o n s ns ks p) 1=((decide (o=1)||decide (o=2))&&(decide (ks.length=1)&&(!ks.any fun x=>!rightN x 1))) by rw [NH o n s ns ks p,HB.out,Bool.true_and]);rcases (show o=1∨o=2∨(o≠1∧o≠2) from by omega) with rfl | rfl | ⟨h0,h1⟩
   ·go_wp2_with fail;refine (cK B _ _ ks 1 ZO ZK SK.out (by omega) IE.out).mono ?_;rintro e wz ⟨rfl,bz⟩;have ZZ:=aA (aH Z.out (Nat.le_refl _) bz);clear bz;go_wp2_with fail;go_ret;exact⟨by rw [H.out];rfl,ZZ.out⟩
   ·go_wp2_with fail;refine (cK B _ _ ks 1 ZO ZK SK.out (by omega) IE.out).mono ?_;rintro e wz ⟨rfl,bz⟩;have ZZ:=aA (aH Z.out (Nat.le_refl _) bz);clear bz;go_wp2_with fail;go_ret;exact⟨by rw [H.out];rfl,ZZ.out⟩
   ·have e0:(o==1)=false:=beq_eq_false_iff_ne.2 h0;have e1:(o==2)=false:=beq_eq_false_iff_ne.2 h1;rw [decide_eq_false h0,decide_eq_false h1] at H;clear h0 h1;go_wp2_with fail;go_ret;exact⟨by rw [H.out];rfl,Z.out⟩
  by_cases hk10:k=10
  ·subst hk10;have H:=aA (show rightN (.mk 10 o n s ns ks p) 1=((signT o != [])&&(decide (ks.length=2)&&(!ks.any fun x=>!rightN x 1))) by rw [IZ o n s ns ks p,HB.out,Bool.true_and]);go_wp2_with fail;refine (qE o B _ ZO).mono ?_;rintro e wz ⟨rfl,rfl⟩;generalize signT o=sg at *
   cases sg with
   | nil=>
    go_wp2_with fail;go_ret;exact⟨by rw [H.out];rfl,Z.out⟩
   | cons x r=>
    have hne:((x::r) != ([]:List UInt8))=true:=rfl;rw [hne,Bool.true_and] at H;go_wp2_with fail;refine (cK B _ _ ks 2 ZO ZK SK.out (by omega) IE.out).mono ?_;rintro e wz ⟨rfl,bz⟩;have ZZ:=aA (aH Z.out (Nat.le_refl _) bz);clear bz;go_wp2_with fail;go_ret;exact⟨by rw [H.out];rfl,ZZ.out⟩
  by_cases hk11:k=11
  ·subst hk11;have H:=aA (show rightN (.mk 11 o n s ns ks p) 1=(decide (ks.length=2)&&(!ks.any fun x=>!rightN x 1)) by rw [Ja o n s ns ks p,HB.out,Bool.true_and]);go_wp2_with fail;refine (cK B _ _ ks 2 ZO ZK SK.out (by omega) IE.out).mono ?_;rintro e wz ⟨rfl,bz⟩;have ZZ:=aA (aH Z.out (Nat.le_refl _) bz);clear bz;go_wp2_with fail;go_ret;exact⟨by rw [H.out];rfl,ZZ.out⟩
  by_cases hk12:k=12
  ·subst hk12;have H:=aA (show rightN (.mk 12 o n s ns ks p) 1=(decide (ks.length=2)&&(!ks.any fun x=>!rightN x 1)) by rw [Jb o n s ns ks p,HB.out,Bool.true_and]);go_wp2_with fail;refine (cK B _ _ ks 2 ZO ZK SK.out (by omega) IE.out).mono ?_;rintro e wz ⟨rfl,bz⟩;have ZZ:=aA (aH Z.out (Nat.le_refl _) bz);clear bz;go_wp2_with fail;go_ret;exact⟨by rw [H.out];rfl,ZZ.out⟩
  by_cases hk13:k=13
  ·subst hk13;have H:=aA (show rightN (.mk 13 o n s ns ks p) 1=(dH s&&(decide (ks.length=1)&&(!ks.any fun x=>!rightN x 1))) by rw [Jd o n s ns ks p,HB.out,Bool.true_and]);go_wp2_with fail;refine (iP s _).mono ?_;rintro e wz ⟨rfl,rfl⟩;have HP:=aA (show dH s=nameB s.data.toList from rfl);rw [HP.out] at H;clear HP;generalize nameB s.data.toList=nb at *
   cases nb
   ·go_wp2_with fail;go_ret;exact⟨by rw [H.out];rfl,Z.out⟩
   ·go_wp2_with fail;refine (cK B _ _ ks 1 ZO ZK SK.out (by omega) IE.out).mono ?_;rintro e wz ⟨rfl,bz⟩;have ZZ:=aA (aH Z.out (Nat.le_refl _) bz);clear bz;go_wp2_with fail;go_ret;exact⟨by rw [H.out];rfl,ZZ.out⟩
  by_cases hk14:k=14
  ·subst hk14;have H:=aA (show rightN (.mk 14 o n s ns ks p) 1=(decide (ks.length=2)&&(!ks.any fun x=>!rightN x 1)) by rw [Jc o n s ns ks p,HB.out,Bool.true_and]);go_wp2_with fail;refine (cK B _ _ ks 2 ZO ZK SK.out (by omega) IE.out).mono ?_;rintro e wz ⟨rfl,bz⟩;have ZZ:=aA (aH Z.out (Nat.le_refl _) bz);clear bz;go_wp2_with fail;go_ret;exact⟨by rw [H.out];rfl,ZZ.out⟩
  by_cases hk15:k=15
  ·subst hk15;have H:=aA (show rightN (.mk 15 o n s ns ks p) 1=(decide (1≤ks.length∧ks.length≤7)&&(!ks.any fun x=>!rightN x 1)) by rw [Je o n s ns ks p,HB.out,Bool.true_and]);go_wp2_with fail;refine (vW B _ _ ks ZO ZK SK.out (by omega) IE.out).mono ?_;rintro e wz ⟨rfl,bz⟩;have ZZ:=aA (aH Z.out (Nat.le_refl _) bz);clear bz;generalize (decide (1≤ks.length∧ks.length≤7)&&!ks.any fun x=>!rightN x 1)=rb at *
   go_wp2_with fail;go_ret;exact⟨by rw [H.out];rfl,ZZ.out⟩
  by_cases hk16:k=16
  ·subst hk16;have H:=aA (show rightN (.mk 16 o n s ns ks p) 1=(dH s&&(decide (1≤ks.length∧ks.length≤7)&&(!ks.any fun x=>!rightN x 1))) by rw [Jf o n s ns ks p,HB.out,Bool.true_and]);go_wp2_with fail;refine (iP s _).mono ?_;rintro e wz ⟨rfl,rfl⟩;have HP:=aA (show dH s=nameB s.data.toList from rfl);rw [HP.out] at H;clear HP;generalize nameB s.data.toList=nb at *
   cases nb
   ·go_wp2_with fail;go_ret;exact⟨by rw [H.out];rfl,Z.out⟩
   ·go_wp2_with fail;refine (vW B _ _ ks ZO ZK SK.out (by omega) IE.out).mono ?_;rintro e wz ⟨rfl,bz⟩;have ZZ:=aA (aH Z.out (Nat.le_refl _) bz);clear bz;generalize (decide (1≤ks.length∧ks.length≤7)&&!ks.any fun x=>!rightN x 1)=rb at *
    go_wp2_with fail;go_ret;exact⟨by rw [H.out];rfl,ZZ.out⟩
  by_cases hk17:k=17
  ·subst hk17;have H:=aA (show rightN (.mk 17 o n s ns ks p) 1=(decide (0<(builtT o).2)&&(decide (ks.length=(builtT o).2)&&(!ks.any fun x=>!rightN x 1))) by rw [Jg o n s ns ks p,HB.out,Bool.true_and]);go_wp2_with fail;refine (nJ o _).mono ?_;rintro e wz ⟨rfl,rfl⟩;generalize builtT o=bt at *
   obtain⟨bn,m⟩:=bt;simp only at H;by_cases hm:0<m
   ·rw [decide_eq_true hm,Bool.true_and] at H;go_wp2_with fail;refine (cK B _ _ ks m ZO ZK SK.out (by omega) IE.out).mono ?_;rintro e wz ⟨rfl,bz⟩;have ZZ:=aA (aH Z.out (Nat.le_refl _) bz);clear bz;go_wp2_with fail;go_ret;exact⟨by rw [H.out];rfl,ZZ.out⟩
   ·rw [decide_eq_false hm,Bool.false_and] at H;go_wp2_with fail;go_ret;exact⟨by rw [H.out];rfl,Z.out⟩
  have H:=aA (show rightN (.mk k o n s ns ks p) 1=false by rw [aQ,DC (by omega)];rfl);have e1:(k==1)=false:=beq_eq_false_iff_ne.2 hk1;have e2:(k==2)=false:=beq_eq_false_iff_ne.2 hk2;have e3:(k==3)=false:=beq_eq_false_iff_ne.2 hk3;have e4:(k==4)=false:=beq_eq_false_iff_ne.2 hk4;have e5:(k==5)=false:=beq_eq_false_iff_ne.2 hk5;have e6:(k==6)=false:=beq_eq_false_iff_ne.2 hk6;have e7:(k==7)=false:=beq_eq_false_iff_ne.2 hk7;have e8:(k==8)=false:=beq_eq_false_iff_ne.2 hk8;have e9:(k==9)=false:=beq_eq_false_iff_ne.2 hk9;have e10:(k==10)=false:=beq_eq_false_iff_ne.2 hk10;have e11:(k==11)=false:=beq_eq_false_iff_ne.2 hk11;have e12:(k==12)=false:=beq_eq_false_iff_ne.2 hk12;have e13:(k==13)=false:=beq_eq_false_iff_ne.2 hk13;have e14:(k==14)=false:=beq_eq_false_iff_ne.2 hk14;have e15:(k==15)=false:=beq_eq_false_iff_ne.2 hk15;have e16:(k==16)=false:=beq_eq_false_iff_ne.2 hk16;have e17:(k==17)=false:=beq_eq_false_iff_ne.2 hk17;clear hk1 hk2 hk3 hk4 hk5 hk6 hk7 hk8 hk9 hk10 hk11 hk12 hk13 hk14 hk15 hk16 hk17;go_wp2_with fail;go_ret;exact⟨by rw [H.out];rfl,Z.out⟩
theorem Jr (o n:Int) (s:ByteArray) (ns:List ByteArray) (u v t:Nd) (p:Int):rightN (.mk 28 o n s ns [u,v,t] p) 2=(fP 28 o n s ns 3&&(rightN u 1&&(rightN v 3&&rightN t 3))):=by
 rw [aQ,cW];simp [cL,bJ,jS,kD,cT,bQ,bM,cR,bN,dC,cC,cG,cS,eQ]
theorem AM {o n:Int} {s:ByteArray} {ns:List ByteArray} {ks:List Nd} {p:Int} (h:ks.length≠3):rightN (.mk 28 o n s ns ks p) 2=false:=by
 rw [aQ];simp [kD,bN,h]
theorem Js (o n:Int) (s:ByteArray) (ns:List ByteArray) (u v:Nd) (p:Int):rightN (.mk 30 o n s ns [u,v] p) 2=(fP 30 o n s ns 2&&(rightN u 1&&rightN v 3)):=by
 rw [aQ,cW];simp [cL,bJ,jS,kD,cT,bQ,bM,cR,bN,dC,cC,cG,cS,eQ]
theorem AN {o n:Int} {s:ByteArray} {ns:List ByteArray} {ks:List Nd} {p:Int} (h:ks.length≠2):rightN (.mk 30 o n s ns ks p) 2=false:=by
 rw [aQ];simp [kD,bN,h]
theorem Ln (k o n:Int) (s:ByteArray) (ns:List ByteArray) (ks:List Nd) (p:Int) (ihe:∀ x∈ks,qX x) (ihs:∀ x∈ks,yS x):sR (.mk k o n s ns ks p):=by
 intro B w nv kv hO hN hsm hc;obtain⟨hs6,hns,_,hsk⟩:=lC hsm;simp only [bH] at hc;obtain⟨hs1,hk1⟩:=ndIn_mk.1 hN.out;obtain⟨a1,q1,a2,q2,rfl,rfl⟩:=bY hN.out;simp only [Nd.kind,Nd.op,Nd.num,Nd.str,Nd.pl,Nd.names,Nd.kids] at *
 have NEW:=aA (wY (k:=k) (o:=o) (n:=n) (s:=s) (p:=p) hO.out hs1 hk1);have IE:=aA ihe;have IB:=aA ihs;have SK:=aA hsk;have hlen:=dW ks;clear hO hN hs1 hk1 hsm ihe ihs hsk;cases hbb:fP k o n s ns ks.length with
 | false=>
  have HB:=aA hbb;have H:=aA (uP (a:=2) (p:=p) hbb);clear hbb;go_enter Tryz.func86,Tryz.ntmps86;go_wp2_with fail;go_region_held3 (fun a=>(Below w.heap.size w a∧mL w.heap.size k o n s (.slice a1 ns.length q1) (.slice a2 ks.length q2) p a∧Ok B a∧cA B (.slice a1 ns.length q1) ns a∧dA B a (.slice a2 ks.length q2) ks)∧a.cell? ⟨w.heap.size,0,none⟩=some (.int .i64 k)∧a.cell? ⟨w.heap.size,1,none⟩=some (.int .i64 o)∧a.cell? ⟨w.heap.size,2,none⟩=some (.int .i64 n)∧a.cell? ⟨w.heap.size,3,none⟩=some (.string s)∧
     a.cell? ⟨w.heap.size,4,none⟩=some (.slice a1 ns.length q1)∧a.cell? ⟨w.heap.size,5,none⟩=some (.slice a2 ks.length q2)∧a.cell? ⟨w.heap.size,6,none⟩=some (.int .i64 p))
   (first | exact gQ (by assumption) bb | exact gQ NEW.out (Below.refl _ _).drew | exact gQ (by assumption) (Below.refl _ _).drew)
   (first
    | (go_at_call 60;refine (lU B _ k o n s ns a1 q1 a2 ks.length q2 p (mI (by assumption)) (aA (mJ (by assumption)))).mono ?_;rintro e wx ⟨x1,y1,z1,x2,z2,rfl,hst,bb⟩)
    | (go_at_call 31;refine (mZ B _ k o n s ns a1 q1 a2 ks.length q2 p _ _ _ _ _ (mI (by assumption)) (mJ (by assumption)) hst.out (by omega)).mono ?_;rintro e wx ⟨he,bb⟩;rw [HB.out] at he;subst he))
  rename_i hz;have Z:=aA hz.1.1;clear hz;go_wp2_with fail;go_ret;exact⟨by rw [H.out];rfl,Z.out⟩
 | true=>
  have HB:=aA hbb;clear hbb;go_enter Tryz.func86,Tryz.ntmps86;go_wp2_with fail;go_region_held3 (fun a=>(Below w.heap.size w a∧mL w.heap.size k o n s (.slice a1 ns.length q1) (.slice a2 ks.length q2) p a∧Ok B a∧cA B (.slice a1 ns.length q1) ns a∧dA B a (.slice a2 ks.length q2) ks)∧a.cell? ⟨w.heap.size,0,none⟩=some (.int .i64 k)∧a.cell? ⟨w.heap.size,1,none⟩=some (.int .i64 o)∧a.cell? ⟨w.heap.size,2,none⟩=some (.int .i64 n)∧a.cell? ⟨w.heap.size,3,none⟩=some (.string s)∧
     a.cell? ⟨w.heap.size,4,none⟩=some (.slice a1 ns.length q1)∧a.cell? ⟨w.heap.size,5,none⟩=some (.slice a2 ks.length q2)∧a.cell? ⟨w.heap.size,6,none⟩=some (.int .i64 p))
   (first | exact gQ (by assumption) bb | exact gQ NEW.out (Below.refl _ _).drew | exact gQ (by assumption) (Below.refl _ _).drew)
   (first
    | (go_at_call 60;refine (lU B _ k o n s ns a1 q1 a2 ks.length q2 p (mI (by assumption)) (aA (mJ (by assumption)))).mono ?_;rintro e wx ⟨x1,y1,z1,x2,z2,rfl,hst,bb⟩)
    | (go_at_call 31;refine (mZ B _ k o n s ns a1 q1 a2 ks.length q2 p _ _ _ _ _ (mI (by assumption)) (mJ (by assumption)) hst.out (by omega)).mono ?_;rintro e wx ⟨he,bb⟩;rw [HB.out] at he;subst he))
  rename_i hz;obtain⟨⟨zb,zx,zo,zs,zk⟩,c0,c1,c2,c3,c4,c5,c6⟩:=hz;have Z:=aA zb;have ZX:=aA zx;have ZO:=aA zo;have ZS:=aA zs;have ZK:=aA zk;clear zb zx zo zs zk NEW;by_cases hk21:k=21
  ·subst hk21;have H:=aA (show rightN (.mk 21 o n s ns ks p) 2=(properB s&&(decide (ks.length=1)&&(!ks.any fun x=>!rightN x 1))) by rw [Jh o n s ns ks p,HB.out,Bool.true_and]);go_wp2_with fail;refine (nE s _).mono ?_;rintro e wz ⟨rfl,rfl⟩;generalize properB s=nb at *
   cases nb
   ·go_wp2_with fail;go_ret;exact⟨by rw [H.out];rfl,Z.out⟩
   ·go_wp2_with fail;refine (cK B _ _ ks 1 ZO ZK SK.out (by omega) IE.out).mono ?_;rintro e wz ⟨rfl,bz⟩;have ZZ:=aA (aH Z.out (Nat.le_refl _) bz);clear bz;go_wp2_with fail;go_ret;exact⟨by rw [H.out];rfl,ZZ.out⟩
  by_cases hk22:k=22
  ·subst hk22;have H:=aA (show rightN (.mk 22 o n s ns ks p) 2=(properB s&&(decide (ks.length=1)&&(!ks.any fun x=>!rightN x 1))) by rw [Ji o n s ns ks p,HB.out,Bool.true_and]);go_wp2_with fail;refine (nE s _).mono ?_;rintro e wz ⟨rfl,rfl⟩;generalize properB s=nb at *
   cases nb
   ·go_wp2_with fail;go_ret;exact⟨by rw [H.out];rfl,Z.out⟩
   ·go_wp2_with fail;refine (cK B _ _ ks 1 ZO ZK SK.out (by omega) IE.out).mono ?_;rintro e wz ⟨rfl,bz⟩;have ZZ:=aA (aH Z.out (Nat.le_refl _) bz);clear bz;go_wp2_with fail;go_ret;exact⟨by rw [H.out];rfl,ZZ.out⟩
  by_cases hk23:k=23
  ·subst hk23;have H:=aA (show rightN (.mk 23 o n s ns ks p) 2=(dH s&&(decide (ks.length=2)&&(!ks.any fun x=>!rightN x 1))) by rw [Jj o n s ns ks p,HB.out,Bool.true_and]);go_wp2_with fail;refine (iP s _).mono ?_;rintro e wz ⟨rfl,rfl⟩;have HP:=aA (show dH s=nameB s.data.toList from rfl);rw [HP.out] at H;clear HP;generalize nameB s.data.toList=nb at *
   cases nb
   ·go_wp2_with fail;go_ret;exact⟨by rw [H.out];rfl,Z.out⟩
   ·go_wp2_with fail;refine (cK B _ _ ks 2 ZO ZK SK.out (by omega) IE.out).mono ?_;rintro e wz ⟨rfl,bz⟩;have ZZ:=aA (aH Z.out (Nat.le_refl _) bz);clear bz;go_wp2_with fail;go_ret;exact⟨by rw [H.out];rfl,ZZ.out⟩
  by_cases hk24:k=24
  ·subst hk24;have H:=aA (show rightN (.mk 24 o n s ns ks p) 2=(decide (ks.length=3)&&(!ks.any fun x=>!rightN x 1)) by rw [Jk o n s ns ks p,HB.out,Bool.true_and]);go_wp2_with fail;refine (cK B _ _ ks 3 ZO ZK SK.out (by omega) IE.out).mono ?_;rintro e wz ⟨rfl,bz⟩;have ZZ:=aA (aH Z.out (Nat.le_refl _) bz);clear bz;go_wp2_with fail;go_ret;exact⟨by rw [H.out];rfl,ZZ.out⟩
  by_cases hk25:k=25
  ·subst hk25;have H:=aA (show rightN (.mk 25 o n s ns ks p) 2=(dH s&&(decide (ks.length=1)&&(!ks.any fun x=>!rightN x 1))) by rw [Jl o n s ns ks p,HB.out,Bool.true_and]);go_wp2_with fail;refine (iP s _).mono ?_;rintro e wz ⟨rfl,rfl⟩;have HP:=aA (show dH s=nameB s.data.toList from rfl);rw [HP.out] at H;clear HP;generalize nameB s.data.toList=nb at *
   cases nb
   ·go_wp2_with fail;go_ret;exact⟨by rw [H.out];rfl,Z.out⟩
   ·go_wp2_with fail;refine (cK B _ _ ks 1 ZO ZK SK.out (by omega) IE.out).mono ?_;rintro e wz ⟨rfl,bz⟩;have ZZ:=aA (aH Z.out (Nat.le_refl _) bz);clear bz;go_wp2_with fail;go_ret;exact⟨by rw [H.out];rfl,ZZ.out⟩
  by_cases hk26:k=26
  ·subst hk26;have H:=aA (show rightN (.mk 26 o n s ns ks p) 2=(decide (ks.length=2)&&(!ks.any fun x=>!rightN x 1)) by rw [Jm o n s ns ks p,HB.out,Bool.true_and]);go_wp2_with fail;refine (cK B _ _ ks 2 ZO ZK SK.out (by omega) IE.out).mono ?_;rintro e wz ⟨rfl,bz⟩;have ZZ:=aA (aH Z.out (Nat.le_refl _) bz);clear bz;go_wp2_with fail;go_ret;exact⟨by rw [H.out];rfl,ZZ.out⟩
  by_cases hk27:k=27
  ·subst hk27;have H:=aA (show rightN (.mk 27 o n s ns ks p) 2=(decide (ks.length=1)&&(!ks.any fun x=>!rightN x 1)) by rw [Jn o n s ns ks p,HB.out,Bool.true_and]);go_wp2_with fail;refine (cK B _ _ ks 1 ZO ZK SK.out (by omega) IE.out).mono ?_;rintro e wz ⟨rfl,bz⟩;have ZZ:=aA (aH Z.out (Nat.le_refl _) bz);clear bz;go_wp2_with fail;go_ret;exact⟨by rw [H.out];rfl,ZZ.out⟩
  by_cases hk28:k=28
  ·subst hk28;by_cases hl:ks.length=3
   ·obtain⟨u,v,t,rfl⟩:=tW hl;have H:=aA (show rightN (.mk 28 o n s ns [u,v,t] p) 2=(rightN u 1&&(rightN v 3&&rightN t 3)) by rw [Jr,show fP 28 o n s ns 3=true from HB.out,Bool.true_and]);have hcu:bH u≤1000000∧bH v≤1000000∧bH t≤1000000:=by simp only [bU] at hc;omega
    obtain⟨hcu,hcv,hct⟩:=hcu;clear hl hc hlen HB;simp only [List.length_cons,List.length_nil,Nat.zero_add,Nat.reduceAdd] at *
    obtain⟨b,off,rfl,hbB,hat⟩:=gJ ZK.out (by simp);obtain⟨nu,ku,hnu,hiu⟩:=fZ hat 0 (by simp);simp only [List.getElem_cons_zero,Nat.zero_mul,Nat.add_zero] at hnu hiu;obtain⟨gu0,gu1,gu2,gu3,rfl,rfl⟩:=bY hiu;obtain⟨mu0,mu1,mu2,mu3,mu4,mu5,mu6⟩:=hnu;have Nu:=aA hiu;have HAT0:=aA hat;clear hiu hat;go_wp2_with fail;refine (IE.out u (by simp) B _ _ _ ZO Nu (SK.out u (by simp)) (by omega)).mono ?_;rintro e wz0 ⟨rfl,bz0⟩;have Z0:=aA (aH Z.out (Nat.le_refl _) bz0);have bq:=bz0.mono ZO.out.1;have X0:=aA (nR ZX.out bz0);have c5_0:=(aJ X0.out).2.2.2.2.2.1;have O0:=aA (aR ZO.out bq);have hat0:=gC bq hbB _ _ HAT0.out;clear bz0 bq Nu HAT0;generalize rightN u 1=r0 at *
    cases r0
    ·go_wp2_with fail;go_ret;exact⟨by rw [H.out];rfl,Z0.out⟩
    ·clear c5;obtain⟨nv,kv,hnv,hiv⟩:=fZ hat0 1 (by simp);simp only [List.getElem_cons_succ,List.getElem_cons_zero,Nat.one_mul] at hnv hiv;obtain⟨gv0,gv1,gv2,gv3,rfl,rfl⟩:=bY hiv;obtain⟨mv0,mv1,mv2,mv3,mv4,mv5,mv6⟩:=hnv;have Nv:=aA hiv;have HAT1:=aA hat0;clear hiv hat0;go_wp2_with fail;refine (IB.out v (by simp) B _ _ _ O0 Nv (SK.out v (by simp)) (by omega)).mono ?_;rintro e wz1 ⟨rfl,bz1⟩;have Z1:=aA (aH Z0.out (Nat.le_refl _) bz1);have bq:=bz1.mono O0.out.1;have X1:=aA (nR X0.out bz1);have c5_1:=(aJ X1.out).2.2.2.2.2.1;have O1:=aA (aR O0.out bq);have hat1:=gC bq hbB _ _ HAT1.out;clear bz1 bq Nv HAT1;generalize rightN v 3=r1 at *
     cases r1
     ·go_wp2_with fail;go_ret;exact⟨by rw [H.out];rfl,Z1.out⟩
     ·clear c5_0;obtain⟨nt,kt,hnt,hit⟩:=fZ hat1 2 (by simp);simp only [List.getElem_cons_succ,List.getElem_cons_zero,Nat.reduceMul] at hnt hit;obtain⟨gt0,gt1,gt2,gt3,rfl,rfl⟩:=bY hit;obtain⟨mt0,mt1,mt2,mt3,mt4,mt5,mt6⟩:=hnt;have Nt:=aA hit;have HAT2:=aA hat1;clear hit hat1;go_wp2_with fail;refine (IB.out t (by simp) B _ _ _ O1 Nt (SK.out t (by simp)) (by omega)).mono ?_;rintro e wz2 ⟨rfl,bz2⟩;have Z2:=aA (aH Z1.out (Nat.le_refl _) bz2);have bq:=bz2.mono O1.out.1;have X2:=aA (nR X1.out bz2);have c5_2:=(aJ X2.out).2.2.2.2.2.1;have O2:=aA (aR O1.out bq);have hat2:=gC bq hbB _ _ HAT2.out;clear bz2 bq Nt HAT2;generalize rightN t 3=r2 at *
      cases r2
      ·go_wp2_with fail;go_ret;exact⟨by rw [H.out];rfl,Z2.out⟩
      ·clear hat2;go_wp2_with fail;go_ret;exact⟨by rw [H.out];rfl,Z2.out⟩
   ·have H:=aA (show rightN (.mk 28 o n s ns ks p) 2=false from AM hl);have e0:((ks.length:Int)==3)=false:=beq_eq_false_iff_ne.2 (by omega);clear hl;go_wp2_with fail;go_ret;exact⟨by rw [H.out];rfl,Z.out⟩
  by_cases hk30:k=30
  ·subst hk30;by_cases hl:ks.length=2
   ·obtain⟨u,v,rfl⟩:=nK hl;have H:=aA (show rightN (.mk 30 o n s ns [u,v] p) 2=(rightN u 1&&rightN v 3) by rw [Js,show fP 30 o n s ns 2=true from HB.out,Bool.true_and]);have hcu:bH u≤1000000∧bH v≤1000000:=by simp only [bU] at hc;omega
    obtain⟨hcu,hcv⟩:=hcu;clear hl hc hlen HB;simp only [List.length_cons,List.length_nil,Nat.zero_add,Nat.reduceAdd] at *
    obtain⟨b,off,rfl,hbB,hat⟩:=gJ ZK.out (by simp);obtain⟨nu,ku,hnu,hiu⟩:=fZ hat 0 (by simp);simp only [List.getElem_cons_zero,Nat.zero_mul,Nat.add_zero] at hnu hiu;obtain⟨gu0,gu1,gu2,gu3,rfl,rfl⟩:=bY hiu;obtain⟨mu0,mu1,mu2,mu3,mu4,mu5,mu6⟩:=hnu;have Nu:=aA hiu;have HAT0:=aA hat;clear hiu hat;go_wp2_with fail;refine (IE.out u (by simp) B _ _ _ ZO Nu (SK.out u (by simp)) (by omega)).mono ?_;rintro e wz0 ⟨rfl,bz0⟩;have Z0:=aA (aH Z.out (Nat.le_refl _) bz0);have bq:=bz0.mono ZO.out.1;have X0:=aA (nR ZX.out bz0);have c5_0:=(aJ X0.out).2.2.2.2.2.1;have O0:=aA (aR ZO.out bq);have hat0:=gC bq hbB _ _ HAT0.out;clear bz0 bq Nu HAT0;generalize rightN u 1=r0 at *
    cases r0
    ·go_wp2_with fail;go_ret;exact⟨by rw [H.out];rfl,Z0.out⟩
    ·clear c5;obtain⟨nv,kv,hnv,hiv⟩:=fZ hat0 1 (by simp);simp only [List.getElem_cons_succ,List.getElem_cons_zero,Nat.one_mul] at hnv hiv;obtain⟨gv0,gv1,gv2,gv3,rfl,rfl⟩:=bY hiv;obtain⟨mv0,mv1,mv2,mv3,mv4,mv5,mv6⟩:=hnv;have Nv:=aA hiv;have HAT1:=aA hat0;clear hiv hat0;go_wp2_with fail;refine (IB.out v (by simp) B _ _ _ O0 Nv (SK.out v (by simp)) (by omega)).mono ?_;rintro e wz1 ⟨rfl,bz1⟩;have Z1:=aA (aH Z0.out (Nat.le_refl _) bz1);have bq:=bz1.mono O0.out.1;have X1:=aA (nR X0.out bz1);have c5_1:=(aJ X1.out).2.2.2.2.2.1;have O1:=aA (aR O0.out bq);have hat1:=gC bq hbB _ _ HAT1.out;clear bz1 bq Nv HAT1;generalize rightN v 3=r1 at *
     cases r1
     ·go_wp2_with fail;go_ret;exact⟨by rw [H.out];rfl,Z1.out⟩
     ·clear hat1;go_wp2_with fail;go_ret;exact⟨by rw [H.out];rfl,Z1.out⟩
   ·have H:=aA (show rightN (.mk 30 o n s ns ks p) 2=false from AN hl);have e0:((ks.length:Int)==2)=false:=beq_eq_false_iff_ne.2 (by omega);clear hl;go_wp2_with fail;go_ret;exact⟨by rw [H.out];rfl,Z.out⟩
  by_cases hk31:k=31
  ·subst hk31;have H:=aA (show rightN (.mk 31 o n s ns ks p) 2=(decide (ks.length=1)&&(!ks.any fun x=>!rightN x 1)) by rw [Jo o n s ns ks p,HB.out,Bool.true_and]);go_wp2_with fail;refine (cK B _ _ ks 1 ZO ZK SK.out (by omega) IE.out).mono ?_;rintro e wz ⟨rfl,bz⟩;have ZZ:=aA (aH Z.out (Nat.le_refl _) bz);clear bz;go_wp2_with fail;go_ret;exact⟨by rw [H.out];rfl,ZZ.out⟩
  by_cases hk32:k=32
  ·subst hk32;have H:=aA (show rightN (.mk 32 o n s ns ks p) 2=(decide (ks.length=1)&&(!ks.any fun x=>!rightN x 1)) by rw [Jp o n s ns ks p,HB.out,Bool.true_and]);go_wp2_with fail;refine (cK B _ _ ks 1 ZO ZK SK.out (by omega) IE.out).mono ?_;rintro e wz ⟨rfl,bz⟩;have ZZ:=aA (aH Z.out (Nat.le_refl _) bz);clear bz;go_wp2_with fail;go_ret;exact⟨by rw [H.out];rfl,ZZ.out⟩
  have H:=aA (show rightN (.mk k o n s ns ks p) 2=false by rw [aQ,DD (by omega)];rfl);have e21:(k==21)=false:=beq_eq_false_iff_ne.2 hk21;have e22:(k==22)=false:=beq_eq_false_iff_ne.2 hk22;have e23:(k==23)=false:=beq_eq_false_iff_ne.2 hk23;have e24:(k==24)=false:=beq_eq_false_iff_ne.2 hk24;have e25:(k==25)=false:=beq_eq_false_iff_ne.2 hk25;have e26:(k==26)=false:=beq_eq_false_iff_ne.2 hk26;have e27:(k==27)=false:=beq_eq_false_iff_ne.2 hk27;have e28:(k==28)=false:=beq_eq_false_iff_ne.2 hk28;have e30:(k==30)=false:=beq_eq_false_iff_ne.2 hk30;have e31:(k==31)=false:=beq_eq_false_iff_ne.2 hk31;have e32:(k==32)=false:=beq_eq_false_iff_ne.2 hk32;clear hk21 hk22 hk23 hk24 hk25 hk26 hk27 hk28 hk30 hk31 hk32;go_wp2_with fail;go_ret;exact⟨by rw [H.out];rfl,Z.out⟩
theorem EV (x:Nd):qX x∧sR x∧yS x:=by
 refine Nd.ind (P:=fun x=>qX x∧sR x∧yS x) ?_ x;intro k o n s ns ks p ih;exact⟨Lm k o n s ns ks p (fun x hx=>(ih x hx).1) (fun x hx=>(ih x hx).2.1),Ln k o n s ns ks p (fun x hx=>(ih x hx).1) (fun x hx=>(ih x hx).2.2),Hw k o n s ns ks p (fun x hx=>(ih x hx).2.1)⟩
end Go.Proofs.YtdnnmjhfidimcaaGreatDoor
