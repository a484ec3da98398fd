/- strings.Join, by the library's contract. What stays while the writer writes; objects. -/
import Derived.Shelf.Strings.OnBuilder
import Derived.Lib.Join
import Derived.Test.YtdnnmjhfidimcaaGreatDoorJoint3
import Derived.Test.YtdnnmjhfidimcaaGreatDoorJoint34
import Derived.Deep.RegionHeld3
namespace Go.Proofs.YtdnnmjhfidimcaaGreatDoor
set_option maxHeartbeats 3200000
open Go.Shelf Go.RowKit
open Go.RowKit
set_option linter.unusedVariables false
def Ju:Go.Shelf.Ren:=⟨fun | 156=>142 | 165=>163 | 166=>74 | 169=>28 | 240=>72 | 241=>177 | 276=>114 | 277=>189 | n=>n,fun | 31=>23 | 9=>9 | 3=>3 | 4=>4 | 0=>0 | 20=>20 | 72=>51 | 76=>100 | 70=>48 | 37=>49 | 75=>78 | 127=>82 | 164=>114 | 5=>5 | 80=>55 | n=>n,fun | n=>n⟩
theorem EW:Go.Proofs.Lays.n156 Tryz.prog Ju:={
 mixed:=by kernel_rfl
 f156:=Tryz.func142.trans (congrArg some (by kernel_rfl))
 f165:=Tryz.func163.trans (congrArg some (by kernel_rfl))
 f166:=Tryz.func74.trans (congrArg some (by kernel_rfl))
 f169:=Tryz.func28.trans (congrArg some (by kernel_rfl))
 f240:=Tryz.func72.trans (congrArg some (by kernel_rfl))
 f241:=Tryz.func177.trans (congrArg some (by kernel_rfl))
 f276:=Tryz.func114.trans (congrArg some (by kernel_rfl))
 f277:=Tryz.func189.trans (congrArg some (by kernel_rfl))
 t0:=Tryz.underlying0
 a0:=Tryz.isAgg0
 z0:=Tryz.sizeOf0
 v0:=Tryz.zeroValue0
 t3:=Tryz.underlying3
 a3:=Tryz.isAgg3
 z3:=Tryz.sizeOf3
 v3:=Tryz.zeroValue3
 t4:=Tryz.underlying4
 a4:=Tryz.isAgg4
 z4:=Tryz.sizeOf4
 v4:=Tryz.zeroValue4
 t9:=Tryz.underlying9
 a9:=Tryz.isAgg9
 z9:=Tryz.sizeOf9
 v9:=Tryz.zeroValue9
 t20:=Tryz.underlying20
 a20:=Tryz.isAgg20
 z20:=Tryz.sizeOf20
 v20:=Tryz.zeroValue20
 t31:=Tryz.underlying23
 a31:=Tryz.isAgg23
 z31:=Tryz.sizeOf23
 v31:=Tryz.zeroValue23
 t37:=Tryz.underlying49
 a37:=Tryz.isAgg49
 z37:=Tryz.sizeOf49
 v37:=Tryz.zeroValue49
 t70:=Tryz.underlying48
 a70:=Tryz.isAgg48
 z70:=Tryz.sizeOf48
 v70:=Tryz.zeroValue48
 t72:=Tryz.underlying51
 a72:=Tryz.isAgg51
 z72:=Tryz.sizeOf51
 v72:=Tryz.zeroValue51
 t75:=Tryz.underlying78
 a75:=Tryz.isAgg78
 z75:=Tryz.sizeOf78
 v75:=Tryz.zeroValue78
 t76:=Tryz.underlying100
 a76:=Tryz.isAgg100
 z76:=Tryz.sizeOf100
 v76:=Tryz.zeroValue100
 t127:=Tryz.underlying82
 a127:=Tryz.isAgg82
 z127:=Tryz.sizeOf82
 v127:=Tryz.zeroValue82
 t164:=Tryz.underlying114
 a164:=Tryz.isAgg114
 z164:=Tryz.sizeOf114
 v164:=Tryz.zeroValue114 }
theorem Cj:Builder.Extra Tryz.prog Ju:={
 sizeBuilder:=by kernel_rfl
 liesBuilder:=by kernel_rfl
 t5:=Tryz.underlying5
 a5:=Tryz.isAgg5
 z5:=Tryz.sizeOf5
 v5:=Tryz.zeroValue5
 infoByte:=by kernel_rfl
 cellsByte:=by kernel_rfl
 sizeByte:=by kernel_rfl
 neB5:=by decide }
theorem EX (ns:List ByteArray):Lib.join (ns.map (·.data.toList)) [44,32]=nN ns:=by
 cases ns with
 | nil=>rfl
 | cons s r=>
  rw [List.map_cons,Lib.join_cons];show s.data.toList++_=s.data.toList++r.flatMap fun x=>44::32::x.data.toList
  unfold Lib.joinTail;rw [List.flatMap_def,List.map_map];rfl
theorem Ic (B:Nat) (w:World) (v:Value) (ns:List ByteArray) (hB:B≤w.heap.size) (hS:Hid (cA B v ns w)) (hl:(nN ns).length≤1000000000) (hn:ns.length≤1000000000) :
  Calls Tryz.prog 142 #[v,.string ⟨#[44,32]⟩] w fun e w'=>e=.returned (.string ⟨(nN ns).toArray⟩)∧Below w.heap.size w w':=by
 rcases hS.out with ⟨ao,cap,rfl,rfl⟩ | ⟨b,off,cap,rfl,hb,hat,hc⟩
 ·exact (Any.strings_Join_none EW Cj ao cap ⟨#[44,32]⟩ w).mono fun e w' ⟨h1,h2⟩=>⟨h1,h2▸Below.refl _ _⟩
 ·have:=Any.strings_Join EW Cj b off cap ns ⟨#[44,32]⟩ w (fun j x hx=>by
   obtain⟨hj,rfl⟩:=List.getElem?_eq_some_iff.1 hx;exact hat j hj) (by omega) (by omega) hc (by show (Lib.join _ [44,32]).length≤_;rw [EX];omega)
  refine this.mono fun e w' ⟨h1,h2⟩=>⟨?_,h2⟩
  rw [h1];show Ending.returned (.string ⟨(Lib.join _ [44,32]).toArray⟩)=_;rw [EX]
theorem aL (B b:Nat) (w:World):Near B b w w.drew:=Lo (Near.refl _ _ _)
theorem pJ {B b g:Nat} {w0 a c:World} {k o n:Int} {s:ByteArray} {nv kv:Value} {p:Int} (h:(Near B b w0 a∧mL g k o n s nv kv p a∧g≠b)∧a.cell? ⟨g,0,none⟩=some (.int .i64 k)∧a.cell? ⟨g,1,none⟩=some (.int .i64 o)∧a.cell? ⟨g,2,none⟩=some (.int .i64 n)∧a.cell? ⟨g,3,none⟩=some (.string s)∧a.cell? ⟨g,4,none⟩=some nv∧a.cell? ⟨g,5,none⟩=some kv∧a.cell? ⟨g,6,none⟩=some (.int .i64 p)) (q:Near B b a c) :
  (Near B b w0 c∧mL g k o n s nv kv p c∧g≠b)∧c.cell? ⟨g,0,none⟩=some (.int .i64 k)∧c.cell? ⟨g,1,none⟩=some (.int .i64 o)∧c.cell? ⟨g,2,none⟩=some (.int .i64 n)∧c.cell? ⟨g,3,none⟩=some (.string s)∧c.cell? ⟨g,4,none⟩=some nv∧c.cell? ⟨g,5,none⟩=some kv∧c.cell? ⟨g,6,none⟩=some (.int .i64 p):=by
 obtain⟨⟨h1,h2,h3⟩,_⟩:=h;have hx:=aM h2 h3 q;obtain⟨x0,x1,x2,x3,x4,x5,x6⟩:=aJ hx;exact⟨⟨h1.trans q,hx,h3⟩,x0,x1,x2,x3,x4,x5,x6⟩
theorem nV {B b g:Nat} {w0 a c:World} {k o n:Int} {s:ByteArray} {nv kv:Value} {p:Int} {t u:Nat} {k1 o1 n1:Int} {s1:ByteArray} {nv1 kv1:Value} {p1:Int} (h:(Near B b w0 a∧mL g k o n s nv kv p a∧g≠b∧t<B∧bK t (u) k1 o1 n1 s1 nv1 kv1 p1 a)∧a.cell? ⟨g,0,none⟩=some (.int .i64 k)∧a.cell? ⟨g,1,none⟩=some (.int .i64 o)∧a.cell? ⟨g,2,none⟩=some (.int .i64 n)∧a.cell? ⟨g,3,none⟩=some (.string s)∧a.cell? ⟨g,4,none⟩=some nv∧a.cell? ⟨g,5,none⟩=some kv∧a.cell? ⟨g,6,none⟩=some (.int .i64 p)∧a.cell? ⟨t,u,none⟩=some (.int .i64 k1)∧a.cell? ⟨t,u+1,none⟩=some (.int .i64 o1)∧a.cell? ⟨t,u+2,none⟩=some (.int .i64 n1)∧a.cell? ⟨t,u+3,none⟩=some (.string s1)∧a.cell? ⟨t,u+4,none⟩=some nv1∧a.cell? ⟨t,u+5,none⟩=some kv1∧a.cell? ⟨t,u+6,none⟩=some (.int .i64 p1)) (q:Near B b a c) :
  (Near B b w0 c∧mL g k o n s nv kv p c∧g≠b∧t<B∧bK t (u) k1 o1 n1 s1 nv1 kv1 p1 c)∧c.cell? ⟨g,0,none⟩=some (.int .i64 k)∧c.cell? ⟨g,1,none⟩=some (.int .i64 o)∧c.cell? ⟨g,2,none⟩=some (.int .i64 n)∧c.cell? ⟨g,3,none⟩=some (.string s)∧c.cell? ⟨g,4,none⟩=some nv∧c.cell? ⟨g,5,none⟩=some kv∧c.cell? ⟨g,6,none⟩=some (.int .i64 p)∧c.cell? ⟨t,u,none⟩=some (.int .i64 k1)∧c.cell? ⟨t,u+1,none⟩=some (.int .i64 o1)∧c.cell? ⟨t,u+2,none⟩=some (.int .i64 n1)∧c.cell? ⟨t,u+3,none⟩=some (.string s1)∧c.cell? ⟨t,u+4,none⟩=some nv1∧c.cell? ⟨t,u+5,none⟩=some kv1∧c.cell? ⟨t,u+6,none⟩=some (.int .i64 p1):=by
 obtain⟨⟨h1,h2,h3,t0,m0⟩,_⟩:=h;have hx:=aM h2 h3 q;obtain⟨x0,x1,x2,x3,x4,x5,x6⟩:=aJ hx;have y0:=aG m0 t0 q.below;obtain⟨z00,z01,z02,z03,z04,z05,z06⟩:=y0;exact⟨⟨h1.trans q,hx,h3,t0,aG m0 t0 q.below⟩,x0,x1,x2,x3,x4,x5,x6,z00,z01,z02,z03,z04,z05,z06⟩
theorem gO {B b g:Nat} {w0 a c:World} {k o n:Int} {s:ByteArray} {nv kv:Value} {p:Int} {t u:Nat} {k1 o1 n1:Int} {s1:ByteArray} {nv1 kv1:Value} {p1:Int} {t2 u2:Nat} {k2 o2 n2:Int} {s2:ByteArray} {nv2 kv2:Value} {p2:Int} (h:(Near B b w0 a∧mL g k o n s nv kv p a∧g≠b∧t<B∧bK t (u) k1 o1 n1 s1 nv1 kv1 p1 a∧t2<B∧bK t2 (u2) k2 o2 n2 s2 nv2 kv2 p2 a)∧a.cell? ⟨g,0,none⟩=some (.int .i64 k)∧a.cell? ⟨g,1,none⟩=some (.int .i64 o)∧a.cell? ⟨g,2,none⟩=some (.int .i64 n)∧a.cell? ⟨g,3,none⟩=some (.string s)∧a.cell? ⟨g,4,none⟩=some nv∧a.cell? ⟨g,5,none⟩=some kv∧a.cell? ⟨g,6,none⟩=some (.int .i64 p)∧a.cell? ⟨t,u,none⟩=some (.int .i64 k1)∧a.cell? ⟨t,u+1,none⟩=some (.int .i64 o1)∧a.cell? ⟨t,u+2,none⟩=some (.int .i64 n1)∧a.cell? ⟨t,u+3,none⟩=some (.string s1)∧a.cell? ⟨t,u+4,none⟩=some nv1∧a.cell? ⟨t,u+5,none⟩=some kv1∧a.cell? ⟨t,u+6,none⟩=some (.int .i64 p1)∧a.cell? ⟨t2,u2,none⟩=some (.int .i64 k2)∧a.cell? ⟨t2,u2+1,none⟩=some (.int .i64 o2)∧a.cell? ⟨t2,u2+2,none⟩=some (.int .i64 n2)∧a.cell? ⟨t2,u2+3,none⟩=some (.string s2)∧a.cell? ⟨t2,u2+4,none⟩=some nv2∧a.cell? ⟨t2,u2+5,none⟩=some kv2∧a.cell? ⟨t2,u2+6,none⟩=some (.int .i64 p2)) (q:Near B b a c) :
  (Near B b w0 c∧mL g k o n s nv kv p c∧g≠b∧t<B∧bK t (u) k1 o1 n1 s1 nv1 kv1 p1 c∧t2<B∧bK t2 (u2) k2 o2 n2 s2 nv2 kv2 p2 c)∧c.cell? ⟨g,0,none⟩=some (.int .i64 k)∧c.cell? ⟨g,1,none⟩=some (.int .i64 o)∧c.cell? ⟨g,2,none⟩=some (.int .i64 n)∧c.cell? ⟨g,3,none⟩=some (.string s)∧c.cell? ⟨g,4,none⟩=some nv∧c.cell? ⟨g,5,none⟩=some kv∧c.cell? ⟨g,6,none⟩=some (.int .i64 p)∧c.cell? ⟨t,u,none⟩=some (.int .i64 k1)∧c.cell? ⟨t,u+1,none⟩=some (.int .i64 o1)∧c.cell? ⟨t,u+2,none⟩=some (.int .i64 n1)∧c.cell? ⟨t,u+3,none⟩=some (.string s1)∧c.cell? ⟨t,u+4,none⟩=some nv1∧c.cell? ⟨t,u+5,none⟩=some kv1∧c.cell? ⟨t,u+6,none⟩=some (.int .i64 p1)∧c.cell? ⟨t2,u2,none⟩=some (.int .i64 k2)∧c.cell? ⟨t2,u2+1,none⟩=some (.int .i64 o2)∧c.cell? ⟨t2,u2+2,none⟩=some (.int .i64 n2)∧c.cell? ⟨t2,u2+3,none⟩=some (.string s2)∧c.cell? ⟨t2,u2+4,none⟩=some nv2∧c.cell? ⟨t2,u2+5,none⟩=some kv2∧c.cell? ⟨t2,u2+6,none⟩=some (.int .i64 p2):=by
 obtain⟨⟨h1,h2,h3,t0,m0,t1,m1⟩,_⟩:=h;have hx:=aM h2 h3 q;obtain⟨x0,x1,x2,x3,x4,x5,x6⟩:=aJ hx;have y0:=aG m0 t0 q.below;obtain⟨z00,z01,z02,z03,z04,z05,z06⟩:=y0;have y1:=aG m1 t1 q.below;obtain⟨z10,z11,z12,z13,z14,z15,z16⟩:=y1;exact⟨⟨h1.trans q,hx,h3,t0,aG m0 t0 q.below,t1,aG m1 t1 q.below⟩,x0,x1,x2,x3,x4,x5,x6,z00,z01,z02,z03,z04,z05,z06,z10,z11,z12,z13,z14,z15,z16⟩
def oW:List ByteArray→List Tx→List UInt8
 | s::ns,x::r=>mV s x++gZ ns r
 | _,_=>[]
theorem OQ:∀ (ns:List ByteArray) (l:List Tx),oZ ns l=[123]++(oW ns l++[125])
 | [],_=>by simp [oZ,oW]
 | s::ns,[]=>by simp [oZ,oW]
 | s::ns,x::r=>by simp [oZ,oW]
theorem vY:∀ (ns:List ByteArray) (l:List Tx) (s:ByteArray) (x:Tx),ns.length=l.length→gZ (ns++[s]) (l++[x])=gZ ns l++([44,32]++mV s x)
 | [],[],s,x,_=>by simp [gZ]
 | m::ns,y::l,s,x,h=>by
  have ih:=vY ns l s x (by simpa using h);simp only [List.cons_append,gZ,ih,List.append_assoc]
 | [],y::l,s,x,h=>by simp at h
 | m::ns,[],s,x,h=>by simp at h
theorem Lr (ns:List ByteArray) (l:List Tx) (s:ByteArray) (x:Tx) (h:ns.length=l.length) (h0:ns≠[]):oW (ns++[s]) (l++[x])=oW ns l++([44,32]++mV s x):=by
 cases ns with
 | nil=>exact absurd rfl h0
 | cons m ns=>
  cases l with
  | nil=>simp at h
  | cons y l=>
   simp only [List.cons_append,oW,vY ns l s x (by simpa using h),List.append_assoc]
theorem vZ:∀ (ns ms:List ByteArray) (l m:List Tx),ns.length=l.length→(gZ ns l).length≤(gZ (ns++ms) (l++m)).length
 | [],ms,[],m,_=>by simp [gZ]
 | a::ns,ms,y::l,m,h=>by
  have ih:=vZ ns ms l m (by simpa using h);simp only [List.cons_append,gZ,List.length_cons,List.length_append];omega
 | [],_,y::l,_,h=>by simp at h
 | a::ns,_,[],_,h=>by simp at h
theorem Ck (ns ms:List ByteArray) (l m:List Tx) (h:ns.length=l.length):(oW ns l).length≤(oW (ns++ms) (l++m)).length:=by
 cases ns with
 | nil=>simp [oW]
 | cons a ns=>
  cases l with
  | nil=>simp at h
  | cons y l=>
   have:=vZ ns ms l m (by simpa using h);simp only [List.cons_append,oW,List.length_append];omega
theorem wZ {B b:Nat} {w a c:World} {o n:Int} {s:ByteArray} {N L q1 q2:Nat} {a2:Option Addr} {p:Int} {v vo vj:Nat} {m:ByteArray}
  (h:(Near B b w a∧mL w.heap.size 7 o n s (.slice (some ⟨v,vo,none⟩) N q1) (.slice a2 L q2) p a∧w.heap.size≠b∧v<B)∧a.cell? ⟨w.heap.size,4,none⟩=some (.slice (some ⟨v,vo,none⟩) N q1)∧a.cell? ⟨v,vj,none⟩=some (.string m)) (q:Near B b a c):(Near B b w c∧mL w.heap.size 7 o n s (.slice (some ⟨v,vo,none⟩) N q1) (.slice a2 L q2) p c∧w.heap.size≠b∧v<B)∧c.cell? ⟨w.heap.size,4,none⟩=some (.slice (some ⟨v,vo,none⟩) N q1)∧c.cell? ⟨v,vj,none⟩=some (.string m):=by
 obtain⟨⟨h1,h2,h3,h4⟩,_,c1⟩:=h;have hx:=aM h2 h3 q;exact⟨⟨h1.trans q,hx,h3,h4⟩,(aJ hx).2.2.2.2.1,cN q.below h4 c1⟩
theorem Dr (o n:Int) (s:ByteArray) (ns:List ByteArray) (ks:List Nd) (p:Int) (a1:Option Addr) (q1:Nat) (a2:Option Addr) (q2:Nat) (hnk:ns.length=ks.length) (hx:∀ z∈ks,dT z) (hr:∀ z∈ks,rightN z 1=true) (hnm:∀ z∈ns,dH z=true) (hns:∀ z∈ns,z.size≤100) (B b:Nat) (l:List UInt8) (w:World)
  (W:Hid (Wr B b l w)) (O:Hid (Ok B w)) (SI:Hid (cA B (.slice a1 ns.length q1) ns w)) (KI:Hid (dA B w (.slice a2 ks.length q2) ks)) (hs:∀ z∈ks,dO z=true) (hc:bU ks≤1000000) (hl:l.length+(oZ ns (ks.map textN)).length≤100000000) :
  Calls Tryz.prog 141 #[.pointer (some ⟨b,0,none⟩),.agg #[.int .i64 7,.int .i64 o,.int .i64 n,.string s,.slice a1 ns.length q1,.slice a2 ks.length q2,.int .i64 p]] w (iS B b l (oZ ns (ks.map textN)) w):=by
 obtain⟨ao,cap,e1,hks⟩:=eM KI.out;injection e1 with e1a _ e1c;subst e1a e1c;obtain⟨ao',cap',e2,hss⟩:=fS SI.out;injection e2 with e2a _ e2c;subst e2a e2c;have KS:=aA hks;have SS:=aA hss;have HX:=aA hx;have HR:=aA hr;have HS:=aA hs;have HM:=aA hnm;have HMS:=aA hns;have HNK:=aA hnk;have hlen:=dW ks;have hlt:=fD W.out;have hB:=O.out.1;have HT:=aA (OQ ns (ks.map textN));have hll:l.length+(oW ns (ks.map textN)).length+2≤100000000:=by
  rw [HT.out] at hl;simp only [List.length_append,List.length_cons,List.length_nil] at hl;omega
 have hal:=bC w (.cells #[.int .i64 7,.int .i64 o,.int .i64 n,.string s,.slice a1 ns.length q1,.slice a2 ks.length q2,.int .i64 p] 26);have N0:=aA (show Near B b w _ from Near.ofBelow hal hB);have W0:=aA (bV W.out hal);have X0:=aA (cH w 7 o n s (.slice a1 ns.length q1) (.slice a2 ks.length q2) p);clear hks hss hx hr hs hnm hns hnk KI SI hl hal W;go_enter Tryz.func141,Tryz.ntmps141;go_wp2_with fail;refine (eK 123 _ rfl W0 (by omega)).mono ?_;rintro e w1 ⟨rfl,l1,hW,hw,nn,_⟩;have W1:=aA hW;have R1:=aA hw;have N1:=aA (N0.out.trans nn);have X1:=aA (aM X0.out (by omega) nn);obtain⟨y0,y1,y2,y3,y4,y5,y6⟩:=aJ X1.out;clear hW hw nn N0 W0 X0;go_wp2_with fail;go_loopw [13] (fun i wr=>∃ (j:Nat) (lj:List UInt8),j≤ks.length∧i=.int .i64 j∧Wr B b lj wr∧WroteT l ([123]++oW (ns.take j) ((ks.map textN).take j)) lj∧Near B b w wr∧mL w.heap.size 7 o n s (.slice a1 ns.length q1) (.slice a2 ks.length q2) p wr) (fun i _=>ks.length - (intOf i).toNat)
 case atStart=>exact⟨0,l1,Nat.zero_le _,rfl,W1.out,by simpa [oW] using R1.out,N1.out,X1.out⟩
 case round=>
  clear W1 R1 N1 X1 y0 y1 y2 y3 y4 y5 y6;obtain⟨j,lj,hj,rfl,hW,hw,hn,hbx⟩:=hrel;have hlj:=aO hw;have hmono:=Ck (ns.take j) (ns.drop j) ((ks.map textN).take j) ((ks.map textN).drop j) (by have:=HNK.out;simp;omega);rw [List.take_append_drop,List.take_append_drop] at hmono;simp only [List.length_append,List.length_cons,List.length_nil] at hlj;by_cases hjl:j<ks.length
  ·obtain⟨t,off,rfl,htB,hat⟩:=KS.out.resolve_left (fun h=>by rw [h] at hjl;cases hjl);have hjn:j<ns.length:=by have:=HNK.out;omega
   obtain⟨v,vo,rfl,hvB,hvat⟩:=SS.out.resolve_left (fun h=>by rw [h] at hjn;cases hjn);have hat':=gC hn.below htB _ _ hat;have cv:=cN hn.below hvB (hvat j hjn);obtain⟨nv',kv',hnode,hin⟩:=fZ hat' j hjl;obtain⟨c0,c1,c2,c3,c4,c5,c6⟩:=hnode;have hm:=List.getElem_mem hjl;have hmn:=List.getElem_mem hjn;have hx:=HX.out _ hm;have hF:nF B ks[j] nv' kv' 1 wr:=⟨hin,HR.out _ hm,HS.out _ hm,Nat.le_trans (jA hm) hc⟩
   have hmono1:=Ck (ns.take (j+1)) (ns.drop (j+1)) ((ks.map textN).take (j+1)) ((ks.map textN).drop (j+1)) (by have:=HNK.out;simp;omega);rw [List.take_append_drop,List.take_append_drop] at hmono1;have HTT:=aA (tL ks j hjl);have HTN:=aA (List.take_succ_eq_append_getElem (l:=ns) (i:=j) hjn);rw [HTT.out,HTN.out] at hmono1;have hm0:ns[j].data.toList≠[]:=by
    have:=HM.out _ hmn;unfold dH at this;intro e;rw [e] at this;cases this
   have hm1:=HMS.out _ hmn;have hmsz:ns[j].data.toList.length=ns[j].size:=by simp
   generalize ks[j]=x at *
   generalize ns[j]=m at *
   have HM0:=aA hm0;have HMZ:=aA hmsz;clear hm0 hmsz;obtain⟨b1,r1,b2,r2,rfl,rfl⟩:=bY hin;have hsz:w.heap.size≤wr.heap.size:=hn.below.size;have HXx:=aA hx;have htw:t<wr.heap.size:=by omega
   have hvw:v<wr.heap.size:=by omega
   have hgw:w.heap.size<wr.heap.size:=Cs hbx;have hal:=bC wr (.cells #[.int .i64 x.kind,.int .i64 x.op,.int .i64 x.num,.string x.str,.slice b1 x.names.length r1,.slice b2 x.kids.length r2,.int .i64 x.pl] 26);have nal:Near B b wr _:=Near.ofBelow hal hW.2;have W2:=aA (bV hW hal);have N2:=aA (hn.trans nal);have O2:=aA (aR O.out N2.out.below);have F2:=aA (aE hF nal);have X2:=aA (cH wr x.kind x.op x.num x.str (.slice b1 x.names.length r1) (.slice b2 x.kids.length r2) x.pl);have Y2:=aA (aM hbx (by omega) nal);have V2:=aA (cN nal.below hvB cv);have R2:=aA hw;have hbw:b<wr.heap.size:=fD hW;have hgb:w.heap.size≠b:=by omega
   clear hal nal hF hx hin hat hat' hvat hW hw hn hbx KS SS;by_cases hj0:j=0
   ·subst hj0;simp only [Nat.zero_mul,Nat.add_zero] at c0 c1 c2 c3 c4 c5 c6 cv V2;have RR:=aA (show WroteT l [123] lj by simpa [oW] using R2.out);have E:=aA (show [123]++m.data.toList++[58,32]++(textN x).e=[123]++oW (ns.take (0+1)) ((ks.map textN).take (0+1)) by rw [HTT.out,HTN.out];simp [oW,mV,gZ]);have hb1:m.size+2+(textN x).e.length≤(oW ns (ks.map textN)).length:=by
     have h1:(oW (List.take 0 ns++[m]) (List.take 0 (ks.map textN)++[textN x])).length=m.data.toList.length+2+(textN x).e.length:=by simp [oW,mV,gZ];omega
     rw [HMZ.out] at h1;omega
    have hl0:lj.length≤l.length+1:=by simpa using aO RR.out
    clear R2 hlj hmono hmono1;have S0:Hid ((Near B b w (wr.alloc (.cells #[.int .i64 x.kind,.int .i64 x.op,.int .i64 x.num,.string x.str,.slice b1 x.names.length r1,.slice b2 x.kids.length r2,.int .i64 x.pl] 26))∧mL w.heap.size 7 o n s (.slice (some ⟨v,vo,none⟩) ns.length q1) (.slice (some ⟨t,off,none⟩) ks.length q2) p (wr.alloc (.cells #[.int .i64 x.kind,.int .i64 x.op,.int .i64 x.num,.string x.str,.slice b1 x.names.length r1,.slice b2 x.kids.length r2,.int .i64 x.pl] 26))∧w.heap.size≠b∧v<B)∧(wr.alloc (.cells #[.int .i64 x.kind,.int .i64 x.op,.int .i64 x.num,.string x.str,.slice b1 x.names.length r1,.slice b2 x.kids.length r2,.int .i64 x.pl] 26)).cell? ⟨w.heap.size,4,none⟩=some (.slice (some ⟨v,vo,none⟩) ns.length q1)∧(wr.alloc (.cells #[.int .i64 x.kind,.int .i64 x.op,.int .i64 x.num,.string x.str,.slice b1 x.names.length r1,.slice b2 x.kids.length r2,.int .i64 x.pl] 26)).cell? ⟨v,vo,none⟩=some (.string m)):=⟨⟨N2.out,Y2.out,hgb,hvB⟩,(aJ Y2.out).2.2.2.2.1,V2.out⟩
    go_wp2_with fail;go_region_held3 (fun a=>(Near B b w a∧mL w.heap.size 7 o n s (.slice (some ⟨v,vo,none⟩) ns.length q1) (.slice (some ⟨t,off,none⟩) ks.length q2) p a∧w.heap.size≠b∧v<B)∧a.cell? ⟨w.heap.size,4,none⟩=some (.slice (some ⟨v,vo,none⟩) ns.length q1)∧a.cell? ⟨v,vo,none⟩=some (.string m))
     (first | exact wZ (by assumption) n4 | exact wZ S0.out (aL _ _ _) | exact wZ (by assumption) (aL _ _ _))
     (first
      | (go_at_call 74;refine (dE m (by simp [HM0.out]) (aA (iQ W2.out)) (by omega) (by omega)).mono ?_;rintro e wx ⟨rfl,l4,hW4,hw4,n4,ne4⟩))
    rename_i hz;have nn4:=(aL B b _).trans n4;have W4:=aA hW4;have R4:=aA (RR.out.trans hw4);have N4:=aA (N2.out.trans nn4);have O4:=aA (aR O2.out nn4.below);have F4:=aA (aE F2.out nn4);have X4:=aA (aM X2.out (by omega) nn4);have Y4:=aA (aM Y2.out (by omega) nn4);have hl4:l4.length≤lj.length+m.data.toList.length:=aO hw4;rw [HMZ.out] at hl4;clear hz hW4 hw4 n4 nn4 S0 W2 O2 F2 X2 Y2 N2 RR;go_wp2_with fail;refine (dE ⟨#[58,32]⟩ (by simp) W4 (by omega) (by decide)).mono ?_;rintro e w5 ⟨rfl,l5,hW5,hw5,n5,_⟩;have W5:=aA hW5;have R5:=aA (R4.out.trans hw5);have N5:=aA (N4.out.trans n5);have O5:=aA (aR O4.out n5.below);have F5:=aA (aE F4.out n5);have Y5:=aA (aM Y4.out (by omega) n5);obtain⟨d0,d1,d2,d3,d4,d5,d6⟩:=aJ (aM X4.out (by omega) n5);have hl5:l5.length≤l4.length+2:=by simpa using aO hw5
    clear hW5 hw5 n5 W4 O4 F4 X4 Y4 N4 R4;go_wp2_with fail;refine (HXx.out B b _ _ _ _ W5 O5 (aA F5.out.1) F5.out.2.1 F5.out.2.2.1 F5.out.2.2.2 (by omega)).mono ?_;rintro e w6 ⟨rfl,l6,hW6,hw6,n6⟩;have W6:=aA hW6;have R6:=aA ((R5.out.trans hw6).of E.out);have N6:=aA (N5.out.trans n6);have Y6:=aA (aM Y5.out (by omega) n6);clear hW6 hw6 n6 W5 O5 F5 N5 R5 Y5 E d0 d1 d2 d3 d4 d5 d6;go_wp2_with fail;go_roundw
    case rel=>exact⟨0+1,l6,by omega,by go_num,W6.out,R6.out,N6.out,Y6.out⟩
    case measure=>simp [intOf];omega
   ·have E0:=aA (Lr (ns.take j) ((ks.map textN).take j) m (textN x) (by have:=HNK.out;simp;omega) (Dq (by omega) hjn));have E:=aA (show ([123]++oW (ns.take j) ((ks.map textN).take j))++[44,32]++m.data.toList++[58,32]++(textN x).e=[123]++oW (ns.take (j+1)) ((ks.map textN).take (j+1)) by rw [HTT.out,HTN.out,E0.out];simp only [mV,List.append_assoc,List.cons_append,List.nil_append]);rw [E0.out] at hmono1;simp only [mV,List.length_append,List.length_cons,List.length_nil] at hmono1;rw [HMZ.out] at hmono1;have dj:decide ((0:Int)<(j:Int))=true:=decide_eq_true (by omega);clear E0;go_wp2_with fail;refine (dE ⟨#[44,32]⟩ (by simp) W2 (by omega) (by decide)).mono ?_;rintro e w3 ⟨rfl,l3,hW3,hw3,n3,_⟩;have W3:=aA hW3;have R3:=aA (R2.out.trans hw3);have N3:=aA (N2.out.trans n3);have O3:=aA (aR O2.out n3.below);have F3:=aA (aE F2.out n3);have X3:=aA (aM X2.out (by omega) n3);have Y3:=aA (aM Y2.out (by omega) n3);have V3:=aA (cN n3.below hvB V2.out);have hl3:l3.length≤lj.length+2:=by simpa using aO hw3
    clear hW3 hw3 n3 W2 O2 F2 X2 Y2 V2 N2 R2;have S0:Hid ((Near B b w w3∧mL w.heap.size 7 o n s (.slice (some ⟨v,vo,none⟩) ns.length q1) (.slice (some ⟨t,off,none⟩) ks.length q2) p w3∧w.heap.size≠b∧v<B)∧w3.cell? ⟨w.heap.size,4,none⟩=some (.slice (some ⟨v,vo,none⟩) ns.length q1)∧w3.cell? ⟨v,vo+j,none⟩=some (.string m)):=⟨⟨N3.out,Y3.out,hgb,hvB⟩,(aJ Y3.out).2.2.2.2.1,V3.out⟩
    go_wp2_with fail;go_region_held3 (fun a=>(Near B b w a∧mL w.heap.size 7 o n s (.slice (some ⟨v,vo,none⟩) ns.length q1) (.slice (some ⟨t,off,none⟩) ks.length q2) p a∧w.heap.size≠b∧v<B)∧a.cell? ⟨w.heap.size,4,none⟩=some (.slice (some ⟨v,vo,none⟩) ns.length q1)∧a.cell? ⟨v,vo+j,none⟩=some (.string m))
     (first | exact wZ (by assumption) n4 | exact wZ S0.out (aL _ _ _) | exact wZ (by assumption) (aL _ _ _))
     (first
      | (go_at_call 74;refine (dE m (by simp [HM0.out]) (aA (iQ W3.out)) (by omega) (by omega)).mono ?_;rintro e wx ⟨rfl,l4,hW4,hw4,n4,ne4⟩))
    rename_i hz;have nn4:=(aL B b _).trans n4;have W4:=aA hW4;have R4:=aA (R3.out.trans hw4);have N4:=aA (N3.out.trans nn4);have O4:=aA (aR O3.out nn4.below);have F4:=aA (aE F3.out nn4);have X4:=aA (aM X3.out (by omega) nn4);have Y4:=aA (aM Y3.out (by omega) nn4);have hl4:l4.length≤l3.length+m.data.toList.length:=aO hw4;rw [HMZ.out] at hl4;clear hz hW4 hw4 n4 nn4 S0 W3 O3 F3 X3 Y3 N3 R3;go_wp2_with fail;refine (dE ⟨#[58,32]⟩ (by simp) W4 (by omega) (by decide)).mono ?_;rintro e w5 ⟨rfl,l5,hW5,hw5,n5,_⟩;have W5:=aA hW5;have R5:=aA (R4.out.trans hw5);have N5:=aA (N4.out.trans n5);have O5:=aA (aR O4.out n5.below);have F5:=aA (aE F4.out n5);have Y5:=aA (aM Y4.out (by omega) n5);obtain⟨d0,d1,d2,d3,d4,d5,d6⟩:=aJ (aM X4.out (by omega) n5);have hl5:l5.length≤l4.length+2:=by simpa using aO hw5
    clear hW5 hw5 n5 W4 O4 F4 X4 Y4 N4 R4;go_wp2_with fail;refine (HXx.out B b _ _ _ _ W5 O5 (aA F5.out.1) F5.out.2.1 F5.out.2.2.1 F5.out.2.2.2 (by omega)).mono ?_;rintro e w6 ⟨rfl,l6,hW6,hw6,n6⟩;have W6:=aA hW6;have R6:=aA ((R5.out.trans hw6).of E.out);have N6:=aA (N5.out.trans n6);have Y6:=aA (aM Y5.out (by omega) n6);clear hW6 hw6 n6 W5 O5 F5 N5 R5 Y5 E d0 d1 d2 d3 d4 d5 d6;go_wp2_with fail;go_roundw
    case rel=>exact⟨j+1,l6,by omega,by go_num,W6.out,R6.out,N6.out,Y6.out⟩
    case measure=>simp [intOf];omega
  ·have e:(ks.map textN).take j=ks.map textN:=List.take_of_length_le (by simp;omega);have e':ns.take j=ns:=List.take_of_length_le (by have:=HNK.out;omega);rw [e,e'] at hw;have W2:=aA hW;have R2:=aA hw;have N2:=aA hn;clear hW hw hn hbx e e';go_wp2_with fail;refine (eK 125 _ rfl W2 (by omega)).mono ?_;rintro e w3 ⟨rfl,l3,hW3,hw3,n3,_⟩;have D:=aA (bL hW3 (R2.out.trans hw3) (show [123]++oW ns (ks.map textN)++[125]=oZ ns (ks.map textN) by rw [HT.out,List.append_assoc]) (N2.out.trans n3));clear hW3 hw3 n3;go_wp2_with fail;go_end0
   exact D.out
end Go.Proofs.YtdnnmjhfidimcaaGreatDoor
