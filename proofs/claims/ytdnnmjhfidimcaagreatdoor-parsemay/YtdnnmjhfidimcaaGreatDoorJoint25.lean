/- A node held against its bare copy; whether a node is right as a block. Whether a node is right as an expression. -/
import Derived.Test.YtdnnmjhfidimcaaGreatDoorJoint11
import Derived.Test.YtdnnmjhfidimcaaGreatDoorJoint24
import Derived.Test.YtdnnmjhfidimcaaGreatDoorJoint23
import Derived.Deep.RegionHeld3
import Derived.Deep.RegionWith
namespace Go.Proofs.YtdnnmjhfidimcaaGreatDoor
open Go.RowKit

theorem pzf (B:Nat) (w:World) (k o n:Int) (s:ByteArray) (ns:List ByteArray) (a1:Option Addr) (q1:Nat) (a2:Option Addr) (c2 q2:Nat) (p:Int) (hB:B≤w.heap.size) (hS:Hid (azb B (.slice a1 ns.length q1) ns w)) :
  Calls Tryz.prog 60 #[.agg #[.int .i64 k,.int .i64 o,.int .i64 n,.string s,.slice a1 ns.length q1,.slice a2 c2 q2,.int .i64 p]] w fun e w'=>
   ∃ x1 y1 z1 x2 z2,e=.returned (.agg #[.int .i64 k,.int .i64 (cond (Dzb k) o 0),.int .i64 (cond (czb k) n 0),.string (cond (gzb k) s ⟨#[]⟩),.slice x1 y1 z1,.slice x2 (cond (pzc k) 0 c2) z2,.int .i64 0])∧
    Hid (azb B (.slice x1 y1 z1) (cond (vzb k) ns []) w')∧Below w.heap.size w w':=by
 refine (Bzs w k o n s a1 ns.length q1 a2 c2 q2 p).mono ?_;rintro e w1 ⟨rfl,b1⟩;have h1:∃ x1 y1 z1,cond (vzb k) (.slice a1 ns.length q1) (.slice none 0 0)=Value.slice x1 y1 z1∧azb B (.slice x1 y1 z1) (cond (vzb k) ns []) w1:=by
  cases vzb k
  ·exact⟨none,0,0,rfl,.inl ⟨none,0,rfl,rfl⟩⟩
  ·exact⟨a1,ns.length,q1,rfl,azc hS.out (b1.mono hB)⟩
 have h2:∃ x2 z2,cond (pzc k) (.slice none 0 0) (.slice a2 c2 q2)=Value.slice x2 (cond (pzc k) 0 c2) z2:=by
  cases pzc k
  ·exact⟨a2,q2,rfl⟩
  ·exact⟨none,0,rfl⟩
 obtain⟨x1,y1,z1,e1,h3⟩:=h1;obtain⟨x2,z2,e2⟩:=h2;exact⟨x1,y1,z1,x2,z2,by rw [e1,e2],h3,b1⟩

theorem Tzf (B:Nat) (w:World) (k o n:Int) (s:ByteArray) (ns:List ByteArray) (a1:Option Addr) (q1:Nat) (a2:Option Addr) (c2 q2:Nat) (p:Int) (x1:Option Addr) (y1 z1:Nat) (x2:Option Addr) (z2:Nat) (hB:B≤w.heap.size)
  (hS:azb B (.slice a1 ns.length q1) ns w) (hS':azb B (.slice x1 y1 z1) (cond (vzb k) ns []) w) (hc:ns.length≤1000000) :
  Calls Tryz.prog 31 #[.agg #[.int .i64 k,.int .i64 o,.int .i64 n,.string s,.slice a1 ns.length q1,.slice a2 c2 q2,.int .i64 p],
    .agg #[.int .i64 k,.int .i64 (cond (Dzb k) o 0),.int .i64 (cond (czb k) n 0),.string (cond (gzb k) s ⟨#[]⟩),.slice x1 y1 z1,.slice x2 (cond (pzc k) 0 c2) z2,.int .i64 0]] w fun e w'=>
   e=.returned (.bool (Mzc k o n s ns c2))∧Below w.heap.size w w':=
 jzl B w k o n s ns _ _ _ _ p k _ _ _ _ _ _ _ _ 0 hB (hid hS) (hid hS') hc

theorem kzd {w a c:World} {B g:Nat} {k o n:Int} {s:ByteArray} {nv kv:Value} {p:Int} {ns:List ByteArray} {ks:List Nd}
  (h:(Below w.heap.size w a∧Box g k o n s nv kv p a∧Ok B a∧azb B nv ns a∧Bzb B a kv ks)∧a.cell? ⟨g,0,none⟩=some (.int .i64 k)∧a.cell? ⟨g,1,none⟩=some (.int .i64 o)∧a.cell? ⟨g,2,none⟩=some (.int .i64 n)∧a.cell? ⟨g,3,none⟩=some (.string s)∧
   a.cell? ⟨g,4,none⟩=some nv∧a.cell? ⟨g,5,none⟩=some kv∧a.cell? ⟨g,6,none⟩=some (.int .i64 p)) (q:Below a.heap.size a c) :
  (Below w.heap.size w c∧Box g k o n s nv kv p c∧Ok B c∧azb B nv ns c∧Bzb B c kv ks)∧c.cell? ⟨g,0,none⟩=some (.int .i64 k)∧c.cell? ⟨g,1,none⟩=some (.int .i64 o)∧c.cell? ⟨g,2,none⟩=some (.int .i64 n)∧c.cell? ⟨g,3,none⟩=some (.string s)∧
   c.cell? ⟨g,4,none⟩=some nv∧c.cell? ⟨g,5,none⟩=some kv∧c.cell? ⟨g,6,none⟩=some (.int .i64 p):=by
 obtain⟨⟨h1,h2,h3,h4,h5⟩,_⟩:=h;have q':=q.mono h3.1;have hx:=kzg h2 q;exact⟨⟨gza h1 (Nat.le_refl _) q,hx,nza h3 q',azc h4 q',Tzb q' h5⟩,hza hx⟩
theorem Izk {w:World} {B:Nat} {k o n:Int} {s:ByteArray} {nv kv:Value} {p:Int} {ns:List ByteArray} {ks:List Nd} (hO:Ok B w) (hS:azb B nv ns w) (hK:Bzb B w kv ks) :
  (fun a:World=>(Below w.heap.size w a∧Box w.heap.size k o n s nv kv p a∧Ok B a∧azb B nv ns a∧Bzb B a kv ks)∧a.cell? ⟨w.heap.size,0,none⟩=some (.int .i64 k)∧a.cell? ⟨w.heap.size,1,none⟩=some (.int .i64 o)∧a.cell? ⟨w.heap.size,2,none⟩=some (.int .i64 n)∧a.cell? ⟨w.heap.size,3,none⟩=some (.string s)∧
   a.cell? ⟨w.heap.size,4,none⟩=some nv∧a.cell? ⟨w.heap.size,5,none⟩=some kv∧a.cell? ⟨w.heap.size,6,none⟩=some (.int .i64 p)) (w.alloc (.cells #[.int .i64 k,.int .i64 o,.int .i64 n,.string s,nv,kv,.int .i64 p] 26)):=by
 have hal:=(Below.refl w.heap.size w).alloc (Nat.le_refl _) (.cells #[.int .i64 k,.int .i64 o,.int .i64 n,.string s,nv,kv,.int .i64 p] 26);have q':=hal.mono hO.1;have hx:=Wza w k o n s nv kv p;exact⟨⟨hal,hx,nza hO q',azc hS q',Tzb q' hK⟩,hza hx⟩

theorem Dzf {w a:World} {B g:Nat} {k o n:Int} {s:ByteArray} {nv kv:Value} {p:Int} {ns:List ByteArray} {ks:List Nd} {R:Prop} (h:(Below w.heap.size w a∧Box g k o n s nv kv p a∧Ok B a∧azb B nv ns a∧Bzb B a kv ks)∧R):B≤a.heap.size:=h.1.2.2.1.1
theorem KzA {w a:World} {B g:Nat} {k o n:Int} {s:ByteArray} {nv kv:Value} {p:Int} {ns:List ByteArray} {ks:List Nd} {R:Prop} (h:(Below w.heap.size w a∧Box g k o n s nv kv p a∧Ok B a∧azb B nv ns a∧Bzb B a kv ks)∧R):Hid (Ok B a):=h.1.2.2.1
theorem Ezf {w a:World} {B g:Nat} {k o n:Int} {s:ByteArray} {nv kv:Value} {p:Int} {ns:List ByteArray} {ks:List Nd} {R:Prop} (h:(Below w.heap.size w a∧Box g k o n s nv kv p a∧Ok B a∧azb B nv ns a∧Bzb B a kv ks)∧R):azb B nv ns a:=h.1.2.2.2.1
theorem Tzy {w a:World} {B g:Nat} {k o n:Int} {s:ByteArray} {nv kv:Value} {p:Int} {ns:List ByteArray} {ks:List Nd} {R:Prop} (h:(Below w.heap.size w a∧Box g k o n s nv kv p a∧Ok B a∧azb B nv ns a∧Bzb B a kv ks)∧R):Hid (Bzb B a kv ks):=h.1.2.2.2.2

set_option maxHeartbeats 3200000 in
theorem Dzs (k o n:Int) (s:ByteArray) (ns:List ByteArray) (ks:List Nd) (p:Int) (ih:∀ x∈ks,Fzi x):Bzl (.mk k o n s ns ks p):=by
 intro B w nv kv hO hN hsm hc;obtain⟨_,hns,_,hsk⟩:=Yze hsm;simp only [Kza] at hc;obtain⟨hs1,hk1⟩:=ndIn_mk.1 hN.out;obtain⟨a1,q1,a2,q2,rfl,rfl⟩:=Zza hN.out;simp only [Nd.kind,Nd.op,Nd.num,Nd.str,Nd.pl,Nd.names,Nd.kids] at *
 have NEW:=hid (Izk (k:=k) (o:=o) (n:=n) (s:=s) (p:=p) hO.out hs1 hk1);have IH:=hid ih;clear hO hN hs1 hk1 hsm ih;by_cases hk:k=29
 ·subst hk;have HR:=hid (Rzt o n s ns ks p);have SK:=hid hsk;clear hsk;cases hbb:Mzc 29 o n s ns ks.length with
  | false=>
   have HB:=hid hbb;have H:=hid (show rightN (.mk 29 o n s ns ks p) 3=false by rw [HR.out,hbb];rfl);have NEW2:=hid (kzd NEW.out (Below.refl _ _).drew);clear hbb HR NEW;go_enter Tryz.func34,Tryz.ntmps34;go_wp2_with fail
   first | go_region_with (first
     | (go_at_call 60;refine (pzf B _ 29 o n s ns a1 q1 a2 ks.length q2 p (Dzf NEW2.out) (hid (Ezf NEW2.out))).mono ?_;rintro e wx ⟨x1,y1,z1,x2,z2,rfl,hst,bb⟩;obtain⟨⟨zb,zx,zo,zs,zk⟩,f0,f1,f2,f3,f4,f5,f6⟩:=kzd NEW2.out bb)
     | (go_at_call 31;refine (Tzf B _ 29 o n s ns a1 q1 a2 ks.length q2 p _ _ _ _ _ zo.1 zs hst.out (by omega)).mono ?_;rintro e wy ⟨he,bc⟩;rw [HB.out] at he;subst he)) | fail
   all_goals
    have Z:=hid (gza zb (Nat.le_refl _) bc);clear zb zx zo zs zk;go_wp2_with fail;go_ret;exact⟨by rw [H.out];rfl,Z.out⟩
  | true=>
   have HB:=hid hbb;have H:=hid (show rightN (.mk 29 o n s ns ks p) 3=(decide (ks.length≤40)&&!ks.any fun x=>!rightN x 2) by rw [HR.out,hbb];rfl);clear hbb HR;go_enter Tryz.func34,Tryz.ntmps34;go_wp2_with fail;go_region_held3 (fun a=>(Below w.heap.size w a∧Box w.heap.size 29 o n s (.slice a1 ns.length q1) (.slice a2 ks.length q2) p a∧Ok B a∧azb B (.slice a1 ns.length q1) ns a∧Bzb B a (.slice a2 ks.length q2) ks)∧a.cell? ⟨w.heap.size,0,none⟩=some (.int .i64 29)∧a.cell? ⟨w.heap.size,1,none⟩=some (.int .i64 o)∧a.cell? ⟨w.heap.size,2,none⟩=some (.int .i64 n)∧a.cell? ⟨w.heap.size,3,none⟩=some (.string s)∧
     a.cell? ⟨w.heap.size,4,none⟩=some (.slice a1 ns.length q1)∧a.cell? ⟨w.heap.size,5,none⟩=some (.slice a2 ks.length q2)∧a.cell? ⟨w.heap.size,6,none⟩=some (.int .i64 p))
    (first | exact kzd (by assumption) bb | exact kzd NEW.out (Below.refl _ _).drew | exact kzd (by assumption) (Below.refl _ _).drew)
    (first
     | (go_at_call 60;refine (pzf B _ 29 o n s ns a1 q1 a2 ks.length q2 p (Dzf (by assumption)) (hid (Ezf (by assumption)))).mono ?_;rintro e wx ⟨x1,y1,z1,x2,z2,rfl,hst,bb⟩)
     | (go_at_call 31;refine (Tzf B _ 29 o n s ns a1 q1 a2 ks.length q2 p _ _ _ _ _ (Dzf (by assumption)) (Ezf (by assumption)) hst.out (by omega)).mono ?_;rintro e wx ⟨he,bb⟩;rw [HB.out] at he;subst he)
     | (go_at_call 61;refine (Gzi B _ _ ks (KzA (by assumption)) (Tzy (by assumption)) SK.out (by omega) IH.out).mono ?_;rintro e wx ⟨he,bb⟩;rw [← H.out] at he;subst he))
   rename_i hz;have Z:=hid hz.1.1;clear hz;go_wp2_with fail;go_ret;exact⟨rfl,Z.out⟩
 ·have ek:(k==29)=false:=beq_eq_false_iff_ne.2 hk;have H:=hid (show rightN (.mk k o n s ns ks p) 3=false by
   rw [qza];have:(isK k==3)=false:=mzp hk;rw [this];rfl)
  have c0:(w.alloc (.cells #[.int .i64 k,.int .i64 o,.int .i64 n,.string s,.slice a1 ns.length q1,.slice a2 ks.length q2,.int .i64 p] 26)).drew.cell? ⟨w.heap.size,0,none⟩=some (.int .i64 k):=by simp
  clear hk;go_enter Tryz.func34,Tryz.ntmps34;go_wp2_with fail;go_region;all_goals
   go_wp2_with fail;go_ret;exact⟨by rw [H.out];rfl,NEW.out.1.1.drew⟩

end Go.Proofs.YtdnnmjhfidimcaaGreatDoor

namespace Go.Proofs.YtdnnmjhfidimcaaGreatDoor
open Go.RowKit

theorem Bzj {k o n:Int} {s:ByteArray} {ns:List ByteArray} {ks:List Nd} {p:Int} {a:Nat} (h:Mzc k o n s ns ks.length=false):rightN (.mk k o n s ns ks p) a=false:=by
 rw [qza];have:okB k o n s ns ks.length=false:=by
  cases hq:okB k o n s ns ks.length with
  | false=>rfl
  | true=>
   exfalso;rw [zzb] at h;unfold okB at hq;simp only [Bool.and_eq_true] at hq;obtain⟨h1,h2,h3,h4,h5⟩:=hq;have g1:cond (Dzb k) true (decide (o=0))=true:=by unfold wzb at h1;unfold Dzb;grind
   have g2:cond (czb k) true (decide (n=0))=true:=by unfold Rza at h2;unfold czb;grind
   have g3:cond (gzb k) true (decide (s.size=0))=true:=by unfold Nza at h3;unfold gzb;grind
   have g4:cond (vzb k) true (decide (ns.length=0))=true:=by unfold uzb at h4;unfold vzb;grind
   have g5:cond (pzc k) (decide (ks.length=0)) true=true:=by unfold Oza at h5;unfold pzc;grind
   rw [g1,g2,g3,g4,g5] at h;cases h
 rw [this];simp

set_option maxHeartbeats 6400000 in
set_option maxRecDepth 100000 in
theorem Gzv (k o n:Int) (s:ByteArray) (ns:List ByteArray) (ks:List Nd) (p:Int) (ihe:∀ x∈ks,Ozh x) (ihs:∀ x∈ks,Fzi x):Ozh (.mk k o n s ns ks p):=by
 intro B w nv kv hO hN hsm hc;obtain⟨hs6,hns,_,hsk⟩:=Yze hsm;simp only [Kza] at hc;obtain⟨hs1,hk1⟩:=ndIn_mk.1 hN.out;obtain⟨a1,q1,a2,q2,rfl,rfl⟩:=Zza hN.out;simp only [Nd.kind,Nd.op,Nd.num,Nd.str,Nd.pl,Nd.names,Nd.kids] at *
 have NEW:=hid (Izk (k:=k) (o:=o) (n:=n) (s:=s) (p:=p) hO.out hs1 hk1);have IE:=hid ihe;have IS:=hid ihs;have SK:=hid hsk;have hlen:=Uzb ks;clear hO hN hs1 hk1 hsm ihe ihs hsk;cases hbb:Mzc k o n s ns ks.length with
 | false=>
  have HB:=hid hbb;have H:=hid (Bzj (a:=1) (p:=p) hbb);clear hbb;go_enter Tryz.func123,Tryz.ntmps123;go_wp2_with fail;go_region_held3 (fun a=>(Below w.heap.size w a∧Box w.heap.size k o n s (.slice a1 ns.length q1) (.slice a2 ks.length q2) p a∧Ok B a∧azb B (.slice a1 ns.length q1) ns a∧Bzb B a (.slice a2 ks.length q2) ks)∧a.cell? ⟨w.heap.size,0,none⟩=some (.int .i64 k)∧a.cell? ⟨w.heap.size,1,none⟩=some (.int .i64 o)∧a.cell? ⟨w.heap.size,2,none⟩=some (.int .i64 n)∧a.cell? ⟨w.heap.size,3,none⟩=some (.string s)∧
     a.cell? ⟨w.heap.size,4,none⟩=some (.slice a1 ns.length q1)∧a.cell? ⟨w.heap.size,5,none⟩=some (.slice a2 ks.length q2)∧a.cell? ⟨w.heap.size,6,none⟩=some (.int .i64 p))
   (first | exact kzd (by assumption) bb | exact kzd NEW.out (Below.refl _ _).drew | exact kzd (by assumption) (Below.refl _ _).drew)
   (first
    | (go_at_call 60;refine (pzf B _ k o n s ns a1 q1 a2 ks.length q2 p (Dzf (by assumption)) (hid (Ezf (by assumption)))).mono ?_;rintro e wx ⟨x1,y1,z1,x2,z2,rfl,hst,bb⟩)
    | (go_at_call 31;refine (Tzf B _ k o n s ns a1 q1 a2 ks.length q2 p _ _ _ _ _ (Dzf (by assumption)) (Ezf (by assumption)) hst.out (by omega)).mono ?_;rintro e wx ⟨he,bb⟩;rw [HB.out] at he;subst he))
  rename_i hz;have Z:=hid hz.1.1;clear hz;go_wp2_with fail;go_ret;exact⟨by rw [H.out];rfl,Z.out⟩
 | true=>
  have HB:=hid hbb;clear hbb;go_enter Tryz.func123,Tryz.ntmps123;go_wp2_with fail;go_region_held3 (fun a=>(Below w.heap.size w a∧Box w.heap.size k o n s (.slice a1 ns.length q1) (.slice a2 ks.length q2) p a∧Ok B a∧azb B (.slice a1 ns.length q1) ns a∧Bzb B a (.slice a2 ks.length q2) ks)∧a.cell? ⟨w.heap.size,0,none⟩=some (.int .i64 k)∧a.cell? ⟨w.heap.size,1,none⟩=some (.int .i64 o)∧a.cell? ⟨w.heap.size,2,none⟩=some (.int .i64 n)∧a.cell? ⟨w.heap.size,3,none⟩=some (.string s)∧
     a.cell? ⟨w.heap.size,4,none⟩=some (.slice a1 ns.length q1)∧a.cell? ⟨w.heap.size,5,none⟩=some (.slice a2 ks.length q2)∧a.cell? ⟨w.heap.size,6,none⟩=some (.int .i64 p))
   (first | exact kzd (by assumption) bb | exact kzd NEW.out (Below.refl _ _).drew | exact kzd (by assumption) (Below.refl _ _).drew)
   (first
    | (go_at_call 60;refine (pzf B _ k o n s ns a1 q1 a2 ks.length q2 p (Dzf (by assumption)) (hid (Ezf (by assumption)))).mono ?_;rintro e wx ⟨x1,y1,z1,x2,z2,rfl,hst,bb⟩)
    | (go_at_call 31;refine (Tzf B _ k o n s ns a1 q1 a2 ks.length q2 p _ _ _ _ _ (Dzf (by assumption)) (Ezf (by assumption)) hst.out (by omega)).mono ?_;rintro e wx ⟨he,bb⟩;rw [HB.out] at he;subst he))
  rename_i hz;obtain⟨⟨zb,zx,zo,zs,zk⟩,c0,c1,c2,c3,c4,c5,c6⟩:=hz;have Z:=hid zb;have ZX:=hid zx;have ZO:=hid zo;have ZS:=hid zs;have ZK:=hid zk;clear zb zx zo zs zk NEW;by_cases hk1:k=1
  ·subst hk1;have H:=hid (show rightN (.mk 1 o n s ns ks p) 1=true by rw [kzA o n s ns ks p,HB.out,Bool.true_and]);go_wp2_with fail;go_ret;exact⟨by rw [H.out];rfl,Z.out⟩
  by_cases hk2:k=2
  ·subst hk2;have H:=hid (show rightN (.mk 2 o n s ns ks p) 1=(decide (n=0)||decide (n=1)) by rw [Lzx o n s ns ks p,HB.out,Bool.true_and]);rcases (show n=0∨n=1∨(n≠0∧n≠1) from by omega) with rfl | rfl | ⟨h0,h1⟩
   ·go_wp2_with fail;go_ret;exact⟨by rw [H.out];rfl,Z.out⟩
   ·go_wp2_with fail;go_ret;exact⟨by rw [H.out];rfl,Z.out⟩
   ·have e0:(n==0)=false:=beq_eq_false_iff_ne.2 h0;have e1:(n==1)=false:=beq_eq_false_iff_ne.2 h1;rw [decide_eq_false h0,decide_eq_false h1] at H;clear h0 h1;go_wp2_with fail;go_ret;exact⟨by rw [H.out];rfl,Z.out⟩
  by_cases hk3:k=3
  ·subst hk3;have H:=hid (show rightN (.mk 3 o n s ns ks p) 1=(decide (0≤n)&&decide (n≤4611686018427387903)) by rw [Mzx o n s ns ks p,HB.out,Bool.true_and]);by_cases h0:0≤n
   ·have d0:decide (0≤n)=true:=decide_eq_true h0;rw [d0] at H;go_wp2_with fail;go_ret;exact⟨by rw [H.out];rfl,Z.out⟩
   ·have d0:decide (0≤n)=false:=decide_eq_false h0;rw [d0] at H;go_wp2_with fail;go_ret;exact⟨by rw [H.out];rfl,Z.out⟩
  by_cases hk4:k=4
  ·subst hk4;have H:=hid (show rightN (.mk 4 o n s ns ks p) 1=decide (s.size≤256) by rw [mzA o n s ns ks p,HB.out,Bool.true_and]);by_cases h0:s.size≤256
   ·rw [decide_eq_true h0] at H;have d4:decide ((s.size:Int)≤256)=true:=decide_eq_true (by omega);go_wp2_with fail;go_ret;exact⟨by rw [H.out];rfl,Z.out⟩
   ·rw [decide_eq_false h0] at H;have d4:decide ((s.size:Int)≤256)=false:=decide_eq_false (by omega);go_wp2_with fail;go_ret;exact⟨by rw [H.out];rfl,Z.out⟩
  by_cases hk5:k=5
  ·subst hk5;have H:=hid (show rightN (.mk 5 o n s ns ks p) 1=properB s by rw [Nzx o n s ns ks p,HB.out,Bool.true_and]);go_wp2_with fail;refine (Yzf s _).mono ?_;rintro e wz ⟨rfl,rfl⟩;go_wp2_with fail;go_ret;exact⟨by rw [H.out];rfl,Z.out⟩
  by_cases hk6:k=6
  ·subst hk6;have H:=hid (show rightN (.mk 6 o n s ns ks p) 1=true by rw [lzA o n s ns ks p,HB.out,Bool.true_and]);go_wp2_with fail;go_ret;exact⟨by rw [H.out];rfl,Z.out⟩
  by_cases hk7:k=7
  ·subst hk7;have H:=hid (show rightN (.mk 7 o n s ns ks p) 1=(decide (ns.length=ks.length)&&((decide (ns.length≤40)&&ns.all Izb)&&(decide (ks.length≤40)&&(!ks.any fun x=>!rightN x 1)))) by rw [Ozx o n s ns ks p,HB.out,Bool.true_and]);by_cases hl:ns.length=ks.length
   ·have e0:((ns.length:Int)==(ks.length:Int))=true:=beq_iff_eq.2 (by omega);rw [decide_eq_true hl,Bool.true_and] at H;clear hl;go_wp2_with fail;refine (Czq B _ _ ns 40 ZO.out.1 ZS (by omega)).mono ?_;rintro e wy ⟨rfl,b1⟩;have Z1:=hid (gza Z.out (Nat.le_refl _) b1);have bq:=b1.mono ZO.out.1;have X1:=kzg ZX.out b1;obtain⟨d0,d1,d2,d3,d4,d5,d6⟩:=hza X1;have O1:=hid (nza ZO.out bq);have K1:=hid (Tzb bq ZK.out);clear b1 bq X1;generalize (decide (ns.length≤40)&&ns.all Izb)=nb at *
    cases nb
    ·go_wp2_with fail;go_ret;exact⟨by rw [H.out];rfl,Z1.out⟩
    ·go_wp2_with fail;refine (Jzm B _ _ ks 40 O1 K1 SK.out (by omega) IE.out).mono ?_;rintro e wz ⟨rfl,bz⟩;have ZZ:=hid (gza Z1.out (Nat.le_refl _) bz);clear bz;go_wp2_with fail;go_ret;exact⟨by rw [H.out];rfl,ZZ.out⟩
   ·have e0:((ns.length:Int)==(ks.length:Int))=false:=beq_eq_false_iff_ne.2 (by omega);rw [decide_eq_false hl,Bool.false_and] at H;clear hl;go_wp2_with fail;go_ret;exact⟨by rw [H.out];rfl,Z.out⟩
  by_cases hk8:k=8
  ·subst hk8;have H:=hid (show rightN (.mk 8 o n s ns ks p) 1=((decide (ns.length≤6)&&ns.all properB)&&(decide (ks.length≤40)&&(!ks.any fun x=>!rightN x 2))) by rw [Pzx o n s ns ks p,HB.out,Bool.true_and]);go_wp2_with fail;refine (gzn B _ _ ns 6 ZO.out.1 ZS (by omega)).mono ?_;rintro e wy ⟨rfl,b1⟩;have Z1:=hid (gza Z.out (Nat.le_refl _) b1);have bq:=b1.mono ZO.out.1;have X1:=kzg ZX.out b1;obtain⟨d0,d1,d2,d3,d4,d5,d6⟩:=hza X1;have O1:=hid (nza ZO.out bq);have K1:=hid (Tzb bq ZK.out);clear b1 bq X1;generalize (decide (ns.length≤6)&&ns.all properB)=nb at *
   cases nb
   ·go_wp2_with fail;go_ret;exact⟨by rw [H.out];rfl,Z1.out⟩
   ·go_wp2_with fail;refine (Gzi B _ _ ks O1 K1 SK.out (by omega) IS.out).mono ?_;rintro e wz ⟨rfl,bz⟩;have ZZ:=hid (gza Z1.out (Nat.le_refl _) bz);clear bz;go_wp2_with fail;go_ret;exact⟨by rw [H.out];rfl,ZZ.out⟩
  by_cases hk9:k=9
  ·subst hk9;have H:=hid (show rightN (.mk 9 o n s ns ks p) 1=((decide (o=1)||decide (o=2))&&(decide (ks.length=1)&&(!ks.any fun x=>!rightN x 1))) by rw [Qzx o n s ns ks p,HB.out,Bool.true_and]);rcases (show o=1∨o=2∨(o≠1∧o≠2) from by omega) with rfl | rfl | ⟨h0,h1⟩
   ·go_wp2_with fail;refine (kzb B _ _ ks 1 ZO ZK SK.out (by omega) IE.out).mono ?_;rintro e wz ⟨rfl,bz⟩;have ZZ:=hid (gza Z.out (Nat.le_refl _) bz);clear bz;go_wp2_with fail;go_ret;exact⟨by rw [H.out];rfl,ZZ.out⟩
   ·go_wp2_with fail;refine (kzb B _ _ ks 1 ZO ZK SK.out (by omega) IE.out).mono ?_;rintro e wz ⟨rfl,bz⟩;have ZZ:=hid (gza Z.out (Nat.le_refl _) bz);clear bz;go_wp2_with fail;go_ret;exact⟨by rw [H.out];rfl,ZZ.out⟩
   ·have e0:(o==1)=false:=beq_eq_false_iff_ne.2 h0;have e1:(o==2)=false:=beq_eq_false_iff_ne.2 h1;rw [decide_eq_false h0,decide_eq_false h1] at H;clear h0 h1;go_wp2_with fail;go_ret;exact⟨by rw [H.out];rfl,Z.out⟩
  by_cases hk10:k=10
  ·subst hk10;have H:=hid (show rightN (.mk 10 o n s ns ks p) 1=((signT o != [])&&(decide (ks.length=2)&&(!ks.any fun x=>!rightN x 1))) by rw [Azt o n s ns ks p,HB.out,Bool.true_and]);go_wp2_with fail;refine (vzh o B _ ZO).mono ?_;rintro e wz ⟨rfl,rfl⟩;generalize signT o=sg at *
   cases sg with
   | nil=>
    go_wp2_with fail;go_ret;exact⟨by rw [H.out];rfl,Z.out⟩
   | cons x r=>
    have hne:((x::r) != ([]:List UInt8))=true:=rfl;rw [hne,Bool.true_and] at H;go_wp2_with fail;refine (kzb B _ _ ks 2 ZO ZK SK.out (by omega) IE.out).mono ?_;rintro e wz ⟨rfl,bz⟩;have ZZ:=hid (gza Z.out (Nat.le_refl _) bz);clear bz;go_wp2_with fail;go_ret;exact⟨by rw [H.out];rfl,ZZ.out⟩
  by_cases hk11:k=11
  ·subst hk11;have H:=hid (show rightN (.mk 11 o n s ns ks p) 1=(decide (ks.length=2)&&(!ks.any fun x=>!rightN x 1)) by rw [Bzt o n s ns ks p,HB.out,Bool.true_and]);go_wp2_with fail;refine (kzb B _ _ ks 2 ZO ZK SK.out (by omega) IE.out).mono ?_;rintro e wz ⟨rfl,bz⟩;have ZZ:=hid (gza Z.out (Nat.le_refl _) bz);clear bz;go_wp2_with fail;go_ret;exact⟨by rw [H.out];rfl,ZZ.out⟩
  by_cases hk12:k=12
  ·subst hk12;have H:=hid (show rightN (.mk 12 o n s ns ks p) 1=(decide (ks.length=2)&&(!ks.any fun x=>!rightN x 1)) by rw [Czt o n s ns ks p,HB.out,Bool.true_and]);go_wp2_with fail;refine (kzb B _ _ ks 2 ZO ZK SK.out (by omega) IE.out).mono ?_;rintro e wz ⟨rfl,bz⟩;have ZZ:=hid (gza Z.out (Nat.le_refl _) bz);clear bz;go_wp2_with fail;go_ret;exact⟨by rw [H.out];rfl,ZZ.out⟩
  by_cases hk13:k=13
  ·subst hk13;have H:=hid (show rightN (.mk 13 o n s ns ks p) 1=(Izb s&&(decide (ks.length=1)&&(!ks.any fun x=>!rightN x 1))) by rw [Ezt o n s ns ks p,HB.out,Bool.true_and]);go_wp2_with fail;refine (Ozd s _).mono ?_;rintro e wz ⟨rfl,rfl⟩;have HP:=hid (show Izb s=nameB s.data.toList from rfl);rw [HP.out] at H;clear HP;generalize nameB s.data.toList=nb at *
   cases nb
   ·go_wp2_with fail;go_ret;exact⟨by rw [H.out];rfl,Z.out⟩
   ·go_wp2_with fail;refine (kzb B _ _ ks 1 ZO ZK SK.out (by omega) IE.out).mono ?_;rintro e wz ⟨rfl,bz⟩;have ZZ:=hid (gza Z.out (Nat.le_refl _) bz);clear bz;go_wp2_with fail;go_ret;exact⟨by rw [H.out];rfl,ZZ.out⟩
  by_cases hk14:k=14
  ·subst hk14;have H:=hid (show rightN (.mk 14 o n s ns ks p) 1=(decide (ks.length=2)&&(!ks.any fun x=>!rightN x 1)) by rw [Dzt o n s ns ks p,HB.out,Bool.true_and]);go_wp2_with fail;refine (kzb B _ _ ks 2 ZO ZK SK.out (by omega) IE.out).mono ?_;rintro e wz ⟨rfl,bz⟩;have ZZ:=hid (gza Z.out (Nat.le_refl _) bz);clear bz;go_wp2_with fail;go_ret;exact⟨by rw [H.out];rfl,ZZ.out⟩
  by_cases hk15:k=15
  ·subst hk15;have H:=hid (show rightN (.mk 15 o n s ns ks p) 1=(decide (1≤ks.length∧ks.length≤7)&&(!ks.any fun x=>!rightN x 1)) by rw [Fzt o n s ns ks p,HB.out,Bool.true_and]);go_wp2_with fail;refine (izk B _ _ ks ZO ZK SK.out (by omega) IE.out).mono ?_;rintro e wz ⟨rfl,bz⟩;have ZZ:=hid (gza Z.out (Nat.le_refl _) bz);clear bz;generalize (decide (1≤ks.length∧ks.length≤7)&&!ks.any fun x=>!rightN x 1)=rb at *
   go_wp2_with fail;go_ret;exact⟨by rw [H.out];rfl,ZZ.out⟩
  by_cases hk16:k=16
  ·subst hk16;have H:=hid (show rightN (.mk 16 o n s ns ks p) 1=(Izb s&&(decide (1≤ks.length∧ks.length≤7)&&(!ks.any fun x=>!rightN x 1))) by rw [Gzt o n s ns ks p,HB.out,Bool.true_and]);go_wp2_with fail;refine (Ozd s _).mono ?_;rintro e wz ⟨rfl,rfl⟩;have HP:=hid (show Izb s=nameB s.data.toList from rfl);rw [HP.out] at H;clear HP;generalize nameB s.data.toList=nb at *
   cases nb
   ·go_wp2_with fail;go_ret;exact⟨by rw [H.out];rfl,Z.out⟩
   ·go_wp2_with fail;refine (izk B _ _ ks ZO ZK SK.out (by omega) IE.out).mono ?_;rintro e wz ⟨rfl,bz⟩;have ZZ:=hid (gza Z.out (Nat.le_refl _) bz);clear bz;generalize (decide (1≤ks.length∧ks.length≤7)&&!ks.any fun x=>!rightN x 1)=rb at *
    go_wp2_with fail;go_ret;exact⟨by rw [H.out];rfl,ZZ.out⟩
  by_cases hk17:k=17
  ·subst hk17;have H:=hid (show rightN (.mk 17 o n s ns ks p) 1=(decide (0<(builtT o).2)&&(decide (ks.length=(builtT o).2)&&(!ks.any fun x=>!rightN x 1))) by rw [Hzt o n s ns ks p,HB.out,Bool.true_and]);go_wp2_with fail;refine (czg o _).mono ?_;rintro e wz ⟨rfl,rfl⟩;generalize builtT o=bt at *
   obtain⟨bn,m⟩:=bt;simp only at H;by_cases hm:0<m
   ·rw [decide_eq_true hm,Bool.true_and] at H;go_wp2_with fail;refine (kzb B _ _ ks m ZO ZK SK.out (by omega) IE.out).mono ?_;rintro e wz ⟨rfl,bz⟩;have ZZ:=hid (gza Z.out (Nat.le_refl _) bz);clear bz;go_wp2_with fail;go_ret;exact⟨by rw [H.out];rfl,ZZ.out⟩
   ·rw [decide_eq_false hm,Bool.false_and] at H;go_wp2_with fail;go_ret;exact⟨by rw [H.out];rfl,Z.out⟩
  have H:=hid (show rightN (.mk k o n s ns ks p) 1=false by rw [qza,nzp (by omega)];rfl);have e1:(k==1)=false:=beq_eq_false_iff_ne.2 hk1;have e2:(k==2)=false:=beq_eq_false_iff_ne.2 hk2;have e3:(k==3)=false:=beq_eq_false_iff_ne.2 hk3;have e4:(k==4)=false:=beq_eq_false_iff_ne.2 hk4;have e5:(k==5)=false:=beq_eq_false_iff_ne.2 hk5;have e6:(k==6)=false:=beq_eq_false_iff_ne.2 hk6;have e7:(k==7)=false:=beq_eq_false_iff_ne.2 hk7;have e8:(k==8)=false:=beq_eq_false_iff_ne.2 hk8;have e9:(k==9)=false:=beq_eq_false_iff_ne.2 hk9;have e10:(k==10)=false:=beq_eq_false_iff_ne.2 hk10;have e11:(k==11)=false:=beq_eq_false_iff_ne.2 hk11;have e12:(k==12)=false:=beq_eq_false_iff_ne.2 hk12;have e13:(k==13)=false:=beq_eq_false_iff_ne.2 hk13;have e14:(k==14)=false:=beq_eq_false_iff_ne.2 hk14;have e15:(k==15)=false:=beq_eq_false_iff_ne.2 hk15;have e16:(k==16)=false:=beq_eq_false_iff_ne.2 hk16;have e17:(k==17)=false:=beq_eq_false_iff_ne.2 hk17;clear hk1 hk2 hk3 hk4 hk5 hk6 hk7 hk8 hk9 hk10 hk11 hk12 hk13 hk14 hk15 hk16 hk17;go_wp2_with fail;go_ret;exact⟨by rw [H.out];rfl,Z.out⟩

end Go.Proofs.YtdnnmjhfidimcaaGreatDoor
