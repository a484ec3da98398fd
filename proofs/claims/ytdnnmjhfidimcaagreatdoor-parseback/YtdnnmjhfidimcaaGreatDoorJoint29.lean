/- strings.Join, by the library's contract. What stays while the writer writes; objects. How long a text can be. -/
import Derived.Shelf.Strings.OnBuilder
import Derived.Lib.Join
import Derived.Test.YtdnnmjhfidimcaaGreatDoorJoint3
import Derived.Test.YtdnnmjhfidimcaaGreatDoorJoint7
import Derived.Test.YtdnnmjhfidimcaaGreatDoorWrMid
import Derived.Deep.RegionHeld3
namespace Go.Proofs.YtdnnmjhfidimcaaGreatDoor
set_option maxHeartbeats 6400000
open Go.Shelf Go.RowKit
open Go.RowKit
set_option linter.unusedVariables false
def Ko:Go.Shelf.Ren:=⟨fun | 156=>142 | 165=>163 | 166=>74 | 169=>28 | 240=>72 | 241=>177 | 276=>114 | 277=>189 | n=>n,fun | 31=>23 | 9=>9 | 3=>3 | 4=>4 | 0=>0 | 20=>20 | 72=>51 | 76=>100 | 70=>48 | 37=>49 | 75=>78 | 127=>82 | 164=>114 | 5=>5 | 80=>55 | n=>n,fun | n=>n⟩
theorem FY:Go.Proofs.Lays.n156 Tryz.prog Ko:={
 mixed:=by kernel_rfl
 f156:=Tryz.func142.trans (congrArg some (by kernel_rfl))
 f165:=Tryz.func163.trans (congrArg some (by kernel_rfl))
 f166:=Tryz.func74.trans (congrArg some (by kernel_rfl))
 f169:=Tryz.func28.trans (congrArg some (by kernel_rfl))
 f240:=Tryz.func72.trans (congrArg some (by kernel_rfl))
 f241:=Tryz.func177.trans (congrArg some (by kernel_rfl))
 f276:=Tryz.func114.trans (congrArg some (by kernel_rfl))
 f277:=Tryz.func189.trans (congrArg some (by kernel_rfl))
 t0:=Tryz.underlying0
 a0:=Tryz.isAgg0
 z0:=Tryz.sizeOf0
 v0:=Tryz.zeroValue0
 t3:=Tryz.underlying3
 a3:=Tryz.isAgg3
 z3:=Tryz.sizeOf3
 v3:=Tryz.zeroValue3
 t4:=Tryz.underlying4
 a4:=Tryz.isAgg4
 z4:=Tryz.sizeOf4
 v4:=Tryz.zeroValue4
 t9:=Tryz.underlying9
 a9:=Tryz.isAgg9
 z9:=Tryz.sizeOf9
 v9:=Tryz.zeroValue9
 t20:=Tryz.underlying20
 a20:=Tryz.isAgg20
 z20:=Tryz.sizeOf20
 v20:=Tryz.zeroValue20
 t31:=Tryz.underlying23
 a31:=Tryz.isAgg23
 z31:=Tryz.sizeOf23
 v31:=Tryz.zeroValue23
 t37:=Tryz.underlying49
 a37:=Tryz.isAgg49
 z37:=Tryz.sizeOf49
 v37:=Tryz.zeroValue49
 t70:=Tryz.underlying48
 a70:=Tryz.isAgg48
 z70:=Tryz.sizeOf48
 v70:=Tryz.zeroValue48
 t72:=Tryz.underlying51
 a72:=Tryz.isAgg51
 z72:=Tryz.sizeOf51
 v72:=Tryz.zeroValue51
 t75:=Tryz.underlying78
 a75:=Tryz.isAgg78
 z75:=Tryz.sizeOf78
 v75:=Tryz.zeroValue78
 t76:=Tryz.underlying100
 a76:=Tryz.isAgg100
 z76:=Tryz.sizeOf100
 v76:=Tryz.zeroValue100
 t127:=Tryz.underlying82
 a127:=Tryz.isAgg82
 z127:=Tryz.sizeOf82
 v127:=Tryz.zeroValue82
 t164:=Tryz.underlying114
 a164:=Tryz.isAgg114
 z164:=Tryz.sizeOf114
 v164:=Tryz.zeroValue114 }
theorem Do:Builder.Extra Tryz.prog Ko:={
 sizeBuilder:=by kernel_rfl
 liesBuilder:=by kernel_rfl
 t5:=Tryz.underlying5
 a5:=Tryz.isAgg5
 z5:=Tryz.sizeOf5
 v5:=Tryz.zeroValue5
 infoByte:=by kernel_rfl
 cellsByte:=by kernel_rfl
 sizeByte:=by kernel_rfl
 neB5:=by decide }
theorem FZ (ns:List ByteArray):Lib.join (ns.map (·.data.toList)) [44,32]=oI ns:=by
 cases ns with
 | nil=>rfl
 | cons s r=>
  rw [List.map_cons,Lib.join_cons];show s.data.toList++_=s.data.toList++r.flatMap fun x=>44::32::x.data.toList
  unfold Lib.joinTail;rw [List.flatMap_def,List.map_map];rfl
theorem Jh (B:Nat) (w:World) (v:Value) (ns:List ByteArray) (hB:B≤w.heap.size) (hS:Hid (cE B v ns w)) (hl:(oI ns).length≤1000000000) (hn:ns.length≤1000000000) :
  Calls Tryz.prog 142 #[v,.string ⟨#[44,32]⟩] w fun e w'=>e=.returned (.string ⟨(oI ns).toArray⟩)∧Below w.heap.size w w':=by
 rcases hS.out with ⟨ao,cap,rfl,rfl⟩ | ⟨b,off,cap,rfl,hb,hat,hc⟩
 ·exact (Any.strings_Join_none FY Do ao cap ⟨#[44,32]⟩ w).mono fun e w' ⟨h1,h2⟩=>⟨h1,h2▸Below.refl _ _⟩
 ·have:=Any.strings_Join FY Do b off cap ns ⟨#[44,32]⟩ w (fun j x hx=>by
   obtain⟨hj,rfl⟩:=List.getElem?_eq_some_iff.1 hx;exact hat j hj) (by omega) (by omega) hc (by show (Lib.join _ [44,32]).length≤_;rw [FZ];omega)
  refine this.mono fun e w' ⟨h1,h2⟩=>⟨?_,h2⟩
  rw [h1];show Ending.returned (.string ⟨(Lib.join _ [44,32]).toArray⟩)=_;rw [FZ]
theorem aL (B b:Nat) (w:World):Near B b w w.drew:=MF (Near.refl _ _ _)
theorem qM {B b g:Nat} {w0 a c:World} {k o n:Int} {s:ByteArray} {nv kv:Value} {p:Int} (h:(Near B b w0 a∧kZ g k o n s nv kv p a∧g≠b)∧a.cell? ⟨g,0,none⟩=some (.int .i64 k)∧a.cell? ⟨g,1,none⟩=some (.int .i64 o)∧a.cell? ⟨g,2,none⟩=some (.int .i64 n)∧a.cell? ⟨g,3,none⟩=some (.string s)∧a.cell? ⟨g,4,none⟩=some nv∧a.cell? ⟨g,5,none⟩=some kv∧a.cell? ⟨g,6,none⟩=some (.int .i64 p)) (q:Near B b a c) :
  (Near B b w0 c∧kZ g k o n s nv kv p c∧g≠b)∧c.cell? ⟨g,0,none⟩=some (.int .i64 k)∧c.cell? ⟨g,1,none⟩=some (.int .i64 o)∧c.cell? ⟨g,2,none⟩=some (.int .i64 n)∧c.cell? ⟨g,3,none⟩=some (.string s)∧c.cell? ⟨g,4,none⟩=some nv∧c.cell? ⟨g,5,none⟩=some kv∧c.cell? ⟨g,6,none⟩=some (.int .i64 p):=by
 obtain⟨⟨h1,h2,h3⟩,_⟩:=h;have hx:=aM h2 h3 q;obtain⟨x0,x1,x2,x3,x4,x5,x6⟩:=aI hx;exact⟨⟨h1.trans q,hx,h3⟩,x0,x1,x2,x3,x4,x5,x6⟩
theorem oO {B b g:Nat} {w0 a c:World} {k o n:Int} {s:ByteArray} {nv kv:Value} {p:Int} {t u:Nat} {k1 o1 n1:Int} {s1:ByteArray} {nv1 kv1:Value} {p1:Int} (h:(Near B b w0 a∧kZ g k o n s nv kv p a∧g≠b∧t<B∧bN t (u) k1 o1 n1 s1 nv1 kv1 p1 a)∧a.cell? ⟨g,0,none⟩=some (.int .i64 k)∧a.cell? ⟨g,1,none⟩=some (.int .i64 o)∧a.cell? ⟨g,2,none⟩=some (.int .i64 n)∧a.cell? ⟨g,3,none⟩=some (.string s)∧a.cell? ⟨g,4,none⟩=some nv∧a.cell? ⟨g,5,none⟩=some kv∧a.cell? ⟨g,6,none⟩=some (.int .i64 p)∧a.cell? ⟨t,u,none⟩=some (.int .i64 k1)∧a.cell? ⟨t,u+1,none⟩=some (.int .i64 o1)∧a.cell? ⟨t,u+2,none⟩=some (.int .i64 n1)∧a.cell? ⟨t,u+3,none⟩=some (.string s1)∧a.cell? ⟨t,u+4,none⟩=some nv1∧a.cell? ⟨t,u+5,none⟩=some kv1∧a.cell? ⟨t,u+6,none⟩=some (.int .i64 p1)) (q:Near B b a c) :
  (Near B b w0 c∧kZ g k o n s nv kv p c∧g≠b∧t<B∧bN t (u) k1 o1 n1 s1 nv1 kv1 p1 c)∧c.cell? ⟨g,0,none⟩=some (.int .i64 k)∧c.cell? ⟨g,1,none⟩=some (.int .i64 o)∧c.cell? ⟨g,2,none⟩=some (.int .i64 n)∧c.cell? ⟨g,3,none⟩=some (.string s)∧c.cell? ⟨g,4,none⟩=some nv∧c.cell? ⟨g,5,none⟩=some kv∧c.cell? ⟨g,6,none⟩=some (.int .i64 p)∧c.cell? ⟨t,u,none⟩=some (.int .i64 k1)∧c.cell? ⟨t,u+1,none⟩=some (.int .i64 o1)∧c.cell? ⟨t,u+2,none⟩=some (.int .i64 n1)∧c.cell? ⟨t,u+3,none⟩=some (.string s1)∧c.cell? ⟨t,u+4,none⟩=some nv1∧c.cell? ⟨t,u+5,none⟩=some kv1∧c.cell? ⟨t,u+6,none⟩=some (.int .i64 p1):=by
 obtain⟨⟨h1,h2,h3,t0,m0⟩,_⟩:=h;have hx:=aM h2 h3 q;obtain⟨x0,x1,x2,x3,x4,x5,x6⟩:=aI hx;have y0:=aH m0 t0 q.below;obtain⟨z00,z01,z02,z03,z04,z05,z06⟩:=y0;exact⟨⟨h1.trans q,hx,h3,t0,aH m0 t0 q.below⟩,x0,x1,x2,x3,x4,x5,x6,z00,z01,z02,z03,z04,z05,z06⟩
theorem gW {B b g:Nat} {w0 a c:World} {k o n:Int} {s:ByteArray} {nv kv:Value} {p:Int} {t u:Nat} {k1 o1 n1:Int} {s1:ByteArray} {nv1 kv1:Value} {p1:Int} {t2 u2:Nat} {k2 o2 n2:Int} {s2:ByteArray} {nv2 kv2:Value} {p2:Int} (h:(Near B b w0 a∧kZ g k o n s nv kv p a∧g≠b∧t<B∧bN t (u) k1 o1 n1 s1 nv1 kv1 p1 a∧t2<B∧bN t2 (u2) k2 o2 n2 s2 nv2 kv2 p2 a)∧a.cell? ⟨g,0,none⟩=some (.int .i64 k)∧a.cell? ⟨g,1,none⟩=some (.int .i64 o)∧a.cell? ⟨g,2,none⟩=some (.int .i64 n)∧a.cell? ⟨g,3,none⟩=some (.string s)∧a.cell? ⟨g,4,none⟩=some nv∧a.cell? ⟨g,5,none⟩=some kv∧a.cell? ⟨g,6,none⟩=some (.int .i64 p)∧a.cell? ⟨t,u,none⟩=some (.int .i64 k1)∧a.cell? ⟨t,u+1,none⟩=some (.int .i64 o1)∧a.cell? ⟨t,u+2,none⟩=some (.int .i64 n1)∧a.cell? ⟨t,u+3,none⟩=some (.string s1)∧a.cell? ⟨t,u+4,none⟩=some nv1∧a.cell? ⟨t,u+5,none⟩=some kv1∧a.cell? ⟨t,u+6,none⟩=some (.int .i64 p1)∧a.cell? ⟨t2,u2,none⟩=some (.int .i64 k2)∧a.cell? ⟨t2,u2+1,none⟩=some (.int .i64 o2)∧a.cell? ⟨t2,u2+2,none⟩=some (.int .i64 n2)∧a.cell? ⟨t2,u2+3,none⟩=some (.string s2)∧a.cell? ⟨t2,u2+4,none⟩=some nv2∧a.cell? ⟨t2,u2+5,none⟩=some kv2∧a.cell? ⟨t2,u2+6,none⟩=some (.int .i64 p2)) (q:Near B b a c) :
  (Near B b w0 c∧kZ g k o n s nv kv p c∧g≠b∧t<B∧bN t (u) k1 o1 n1 s1 nv1 kv1 p1 c∧t2<B∧bN t2 (u2) k2 o2 n2 s2 nv2 kv2 p2 c)∧c.cell? ⟨g,0,none⟩=some (.int .i64 k)∧c.cell? ⟨g,1,none⟩=some (.int .i64 o)∧c.cell? ⟨g,2,none⟩=some (.int .i64 n)∧c.cell? ⟨g,3,none⟩=some (.string s)∧c.cell? ⟨g,4,none⟩=some nv∧c.cell? ⟨g,5,none⟩=some kv∧c.cell? ⟨g,6,none⟩=some (.int .i64 p)∧c.cell? ⟨t,u,none⟩=some (.int .i64 k1)∧c.cell? ⟨t,u+1,none⟩=some (.int .i64 o1)∧c.cell? ⟨t,u+2,none⟩=some (.int .i64 n1)∧c.cell? ⟨t,u+3,none⟩=some (.string s1)∧c.cell? ⟨t,u+4,none⟩=some nv1∧c.cell? ⟨t,u+5,none⟩=some kv1∧c.cell? ⟨t,u+6,none⟩=some (.int .i64 p1)∧c.cell? ⟨t2,u2,none⟩=some (.int .i64 k2)∧c.cell? ⟨t2,u2+1,none⟩=some (.int .i64 o2)∧c.cell? ⟨t2,u2+2,none⟩=some (.int .i64 n2)∧c.cell? ⟨t2,u2+3,none⟩=some (.string s2)∧c.cell? ⟨t2,u2+4,none⟩=some nv2∧c.cell? ⟨t2,u2+5,none⟩=some kv2∧c.cell? ⟨t2,u2+6,none⟩=some (.int .i64 p2):=by
 obtain⟨⟨h1,h2,h3,t0,m0,t1,m1⟩,_⟩:=h;have hx:=aM h2 h3 q;obtain⟨x0,x1,x2,x3,x4,x5,x6⟩:=aI hx;have y0:=aH m0 t0 q.below;obtain⟨z00,z01,z02,z03,z04,z05,z06⟩:=y0;have y1:=aH m1 t1 q.below;obtain⟨z10,z11,z12,z13,z14,z15,z16⟩:=y1;exact⟨⟨h1.trans q,hx,h3,t0,aH m0 t0 q.below,t1,aH m1 t1 q.below⟩,x0,x1,x2,x3,x4,x5,x6,z00,z01,z02,z03,z04,z05,z06,z10,z11,z12,z13,z14,z15,z16⟩
def pV:List ByteArray→List Tx→List UInt8
 | s::ns,x::r=>nP s x++iE ns r
 | _,_=>[]
theorem Qo:∀ (ns:List ByteArray) (l:List Tx),pZ ns l=[123]++(pV ns l++[125])
 | [],_=>by simp [pZ,pV]
 | s::ns,[]=>by simp [pZ,pV]
 | s::ns,x::r=>by simp [pZ,pV]
theorem xO:∀ (ns:List ByteArray) (l:List Tx) (s:ByteArray) (x:Tx),ns.length=l.length→iE (ns++[s]) (l++[x])=iE ns l++([44,32]++nP s x)
 | [],[],s,x,_=>by simp [iE]
 | m::ns,y::l,s,x,h=>by
  have ih:=xO ns l s x (by simpa using h);simp only [List.cons_append,iE,ih,List.append_assoc]
 | [],y::l,s,x,h=>by simp at h
 | m::ns,[],s,x,h=>by simp at h
theorem MI (ns:List ByteArray) (l:List Tx) (s:ByteArray) (x:Tx) (h:ns.length=l.length) (h0:ns≠[]):pV (ns++[s]) (l++[x])=pV ns l++([44,32]++nP s x):=by
 cases ns with
 | nil=>exact absurd rfl h0
 | cons m ns=>
  cases l with
  | nil=>simp at h
  | cons y l=>
   simp only [List.cons_append,pV,xO ns l s x (by simpa using h),List.append_assoc]
theorem xP:∀ (ns ms:List ByteArray) (l m:List Tx),ns.length=l.length→(iE ns l).length≤(iE (ns++ms) (l++m)).length
 | [],ms,[],m,_=>by simp [iE]
 | a::ns,ms,y::l,m,h=>by
  have ih:=xP ns ms l m (by simpa using h);simp only [List.cons_append,iE,List.length_cons,List.length_append];omega
 | [],_,y::l,_,h=>by simp at h
 | a::ns,_,[],_,h=>by simp at h
theorem Dp (ns ms:List ByteArray) (l m:List Tx) (h:ns.length=l.length):(pV ns l).length≤(pV (ns++ms) (l++m)).length:=by
 cases ns with
 | nil=>simp [pV]
 | cons a ns=>
  cases l with
  | nil=>simp at h
  | cons y l=>
   have:=xP ns ms l m (by simpa using h);simp only [List.cons_append,pV,List.length_append];omega
theorem yY {B b:Nat} {w a c:World} {o n:Int} {s:ByteArray} {N L q1 q2:Nat} {a2:Option Addr} {p:Int} {v vo vj:Nat} {m:ByteArray}
  (h:(Near B b w a∧kZ w.heap.size 7 o n s (.slice (some ⟨v,vo,none⟩) N q1) (.slice a2 L q2) p a∧w.heap.size≠b∧v<B)∧a.cell? ⟨w.heap.size,4,none⟩=some (.slice (some ⟨v,vo,none⟩) N q1)∧a.cell? ⟨v,vj,none⟩=some (.string m)) (q:Near B b a c):(Near B b w c∧kZ w.heap.size 7 o n s (.slice (some ⟨v,vo,none⟩) N q1) (.slice a2 L q2) p c∧w.heap.size≠b∧v<B)∧c.cell? ⟨w.heap.size,4,none⟩=some (.slice (some ⟨v,vo,none⟩) N q1)∧c.cell? ⟨v,vj,none⟩=some (.string m):=by
 obtain⟨⟨h1,h2,h3,h4⟩,_,c1⟩:=h;have hx:=aM h2 h3 q;exact⟨⟨h1.trans q,hx,h3,h4⟩,(aI hx).2.2.2.2.1,bF q.below h4 c1⟩
theorem Es (o n:Int) (s:ByteArray) (ns:List ByteArray) (ks:List Nd) (p:Int) (a1:Option Addr) (q1:Nat) (a2:Option Addr) (q2:Nat) (hnk:ns.length=ks.length) (hx:∀ z∈ks,dY z) (hr:∀ z∈ks,rightN z 1=true) (hnm:∀ z∈ns,dM z=true) (hns:∀ z∈ns,z.size≤100) (B b:Nat) (l:List UInt8) (w:World)
  (W:Hid (Wr B b l w)) (O:Hid (Ok B w)) (SI:Hid (cE B (.slice a1 ns.length q1) ns w)) (KI:Hid (dI B w (.slice a2 ks.length q2) ks)) (hs:∀ z∈ks,dL z=true) (hc:bW ks≤1000000) (hl:l.length+(pZ ns (ks.map textN)).length≤100000000) :
  Calls Tryz.prog 141 #[.pointer (some ⟨b,0,none⟩),.agg #[.int .i64 7,.int .i64 o,.int .i64 n,.string s,.slice a1 ns.length q1,.slice a2 ks.length q2,.int .i64 p]] w (jB B b l (pZ ns (ks.map textN)) w):=by
 obtain⟨ao,cap,e1,hks⟩:=eA KI.out;injection e1 with e1a _ e1c;subst e1a e1c;obtain⟨ao',cap',e2,hss⟩:=eR SI.out;injection e2 with e2a _ e2c;subst e2a e2c;have KS:=aA hks;have SS:=aA hss;have HX:=aA hx;have HR:=aA hr;have HS:=aA hs;have HM:=aA hnm;have HMS:=aA hns;have HNK:=aA hnk;have hlen:=dZ ks;have hlt:=fP W.out;have hB:=O.out.1;have HT:=aA (Qo ns (ks.map textN));have hll:l.length+(pV ns (ks.map textN)).length+2≤100000000:=by
  rw [HT.out] at hl;simp only [List.length_append,List.length_cons,List.length_nil] at hl;omega
 have hal:=bG w (.cells #[.int .i64 7,.int .i64 o,.int .i64 n,.string s,.slice a1 ns.length q1,.slice a2 ks.length q2,.int .i64 p] 26);have N0:=aA (show Near B b w _ from Near.ofBelow hal hB);have W0:=aA (bZ W.out hal);have X0:=aA (cL w 7 o n s (.slice a1 ns.length q1) (.slice a2 ks.length q2) p);clear hks hss hx hr hs hnm hns hnk KI SI hl hal W;go_enter Tryz.func141,Tryz.ntmps141;go_wp2_with fail;refine (eO 123 _ rfl W0 (by omega)).mono ?_;rintro e w1 ⟨rfl,l1,hW,hw,nn,_⟩;have W1:=aA hW;have R1:=aA hw;have N1:=aA (N0.out.trans nn);have X1:=aA (aM X0.out (by omega) nn);obtain⟨y0,y1,y2,y3,y4,y5,y6⟩:=aI X1.out;clear hW hw nn N0 W0 X0;go_wp2_with fail;go_loopw [13] (fun i wr=>∃ (j:Nat) (lj:List UInt8),j≤ks.length∧i=.int .i64 j∧Wr B b lj wr∧WroteT l ([123]++pV (ns.take j) ((ks.map textN).take j)) lj∧Near B b w wr∧kZ w.heap.size 7 o n s (.slice a1 ns.length q1) (.slice a2 ks.length q2) p wr) (fun i _=>ks.length - (intOf i).toNat)
 case atStart=>exact⟨0,l1,Nat.zero_le _,rfl,W1.out,by simpa [pV] using R1.out,N1.out,X1.out⟩
 case round=>
  clear W1 R1 N1 X1 y0 y1 y2 y3 y4 y5 y6;obtain⟨j,lj,hj,rfl,hW,hw,hn,hbx⟩:=hrel;have hlj:=aN hw;have hmono:=Dp (ns.take j) (ns.drop j) ((ks.map textN).take j) ((ks.map textN).drop j) (by have:=HNK.out;simp;omega);rw [List.take_append_drop,List.take_append_drop] at hmono;simp only [List.length_append,List.length_cons,List.length_nil] at hlj;by_cases hjl:j<ks.length
  ·obtain⟨t,off,rfl,htB,hat⟩:=KS.out.resolve_left (fun h=>by rw [h] at hjl;cases hjl);have hjn:j<ns.length:=by have:=HNK.out;omega
   obtain⟨v,vo,rfl,hvB,hvat⟩:=SS.out.resolve_left (fun h=>by rw [h] at hjn;cases hjn);have hat':=gK hn.below htB _ _ hat;have cv:=bF hn.below hvB (hvat j hjn);obtain⟨nv',kv',hnode,hin⟩:=fZ hat' j hjl;obtain⟨c0,c1,c2,c3,c4,c5,c6⟩:=hnode;have hm:=List.getElem_mem hjl;have hmn:=List.getElem_mem hjn;have hx:=HX.out _ hm;have hF:oA B ks[j] nv' kv' 1 wr:=⟨hin,HR.out _ hm,HS.out _ hm,Nat.le_trans (jM hm) hc⟩
   have hmono1:=Dp (ns.take (j+1)) (ns.drop (j+1)) ((ks.map textN).take (j+1)) ((ks.map textN).drop (j+1)) (by have:=HNK.out;simp;omega);rw [List.take_append_drop,List.take_append_drop] at hmono1;have HTT:=aA (uS ks j hjl);have HTN:=aA (List.take_succ_eq_append_getElem (l:=ns) (i:=j) hjn);rw [HTT.out,HTN.out] at hmono1;have hm0:ns[j].data.toList≠[]:=by
    have:=HM.out _ hmn;unfold dM at this;intro e;rw [e] at this;cases this
   have hm1:=HMS.out _ hmn;have hmsz:ns[j].data.toList.length=ns[j].size:=by simp
   generalize ks[j]=x at *
   generalize ns[j]=m at *
   have HM0:=aA hm0;have HMZ:=aA hmsz;clear hm0 hmsz;obtain⟨b1,r1,b2,r2,rfl,rfl⟩:=cC hin;have hsz:w.heap.size≤wr.heap.size:=hn.below.size;have HXx:=aA hx;have htw:t<wr.heap.size:=by omega
   have hvw:v<wr.heap.size:=by omega
   have hgw:w.heap.size<wr.heap.size:=yB hbx;have hal:=bG wr (.cells #[.int .i64 x.kind,.int .i64 x.op,.int .i64 x.num,.string x.str,.slice b1 x.names.length r1,.slice b2 x.kids.length r2,.int .i64 x.pl] 26);have nal:Near B b wr _:=Near.ofBelow hal hW.2;have W2:=aA (bZ hW hal);have N2:=aA (hn.trans nal);have O2:=aA (aR O.out N2.out.below);have F2:=aA (aE hF nal);have X2:=aA (cL wr x.kind x.op x.num x.str (.slice b1 x.names.length r1) (.slice b2 x.kids.length r2) x.pl);have Y2:=aA (aM hbx (by omega) nal);have V2:=aA (bF nal.below hvB cv);have R2:=aA hw;have hbw:b<wr.heap.size:=fP hW;have hgb:w.heap.size≠b:=by omega
   clear hal nal hF hx hin hat hat' hvat hW hw hn hbx KS SS;by_cases hj0:j=0
   ·subst hj0;simp only [Nat.zero_mul,Nat.add_zero] at c0 c1 c2 c3 c4 c5 c6 cv V2;have RR:=aA (show WroteT l [123] lj by simpa [pV] using R2.out);have E:=aA (show [123]++m.data.toList++[58,32]++(textN x).e=[123]++pV (ns.take (0+1)) ((ks.map textN).take (0+1)) by rw [HTT.out,HTN.out];simp [pV,nP,iE]);have hb1:m.size+2+(textN x).e.length≤(pV ns (ks.map textN)).length:=by
     have h1:(pV (List.take 0 ns++[m]) (List.take 0 (ks.map textN)++[textN x])).length=m.data.toList.length+2+(textN x).e.length:=by simp [pV,nP,iE];omega
     rw [HMZ.out] at h1;omega
    have hl0:lj.length≤l.length+1:=by simpa using aN RR.out
    clear R2 hlj hmono hmono1;have S0:Hid ((Near B b w (wr.alloc (.cells #[.int .i64 x.kind,.int .i64 x.op,.int .i64 x.num,.string x.str,.slice b1 x.names.length r1,.slice b2 x.kids.length r2,.int .i64 x.pl] 26))∧kZ w.heap.size 7 o n s (.slice (some ⟨v,vo,none⟩) ns.length q1) (.slice (some ⟨t,off,none⟩) ks.length q2) p (wr.alloc (.cells #[.int .i64 x.kind,.int .i64 x.op,.int .i64 x.num,.string x.str,.slice b1 x.names.length r1,.slice b2 x.kids.length r2,.int .i64 x.pl] 26))∧w.heap.size≠b∧v<B)∧(wr.alloc (.cells #[.int .i64 x.kind,.int .i64 x.op,.int .i64 x.num,.string x.str,.slice b1 x.names.length r1,.slice b2 x.kids.length r2,.int .i64 x.pl] 26)).cell? ⟨w.heap.size,4,none⟩=some (.slice (some ⟨v,vo,none⟩) ns.length q1)∧(wr.alloc (.cells #[.int .i64 x.kind,.int .i64 x.op,.int .i64 x.num,.string x.str,.slice b1 x.names.length r1,.slice b2 x.kids.length r2,.int .i64 x.pl] 26)).cell? ⟨v,vo,none⟩=some (.string m)):=⟨⟨N2.out,Y2.out,hgb,hvB⟩,(aI Y2.out).2.2.2.2.1,V2.out⟩
    go_wp2_with fail;go_region_held3 (fun a=>(Near B b w a∧kZ w.heap.size 7 o n s (.slice (some ⟨v,vo,none⟩) ns.length q1) (.slice (some ⟨t,off,none⟩) ks.length q2) p a∧w.heap.size≠b∧v<B)∧a.cell? ⟨w.heap.size,4,none⟩=some (.slice (some ⟨v,vo,none⟩) ns.length q1)∧a.cell? ⟨v,vo,none⟩=some (.string m))
     (first | exact yY (by assumption) n4 | exact yY S0.out (aL _ _ _) | exact yY (by assumption) (aL _ _ _))
     (first
      | (go_at_call 74;refine (dH m (by simp [HM0.out]) (aA (iZ W2.out)) (by omega) (by omega)).mono ?_;rintro e wx ⟨rfl,l4,hW4,hw4,n4,ne4⟩))
    rename_i hz;have nn4:=(aL B b _).trans n4;have W4:=aA hW4;have R4:=aA (RR.out.trans hw4);have N4:=aA (N2.out.trans nn4);have O4:=aA (aR O2.out nn4.below);have F4:=aA (aE F2.out nn4);have X4:=aA (aM X2.out (by omega) nn4);have Y4:=aA (aM Y2.out (by omega) nn4);have hl4:l4.length≤lj.length+m.data.toList.length:=aN hw4;rw [HMZ.out] at hl4;clear hz hW4 hw4 n4 nn4 S0 W2 O2 F2 X2 Y2 N2 RR;go_wp2_with fail;refine (dH ⟨#[58,32]⟩ (by simp) W4 (by omega) (by decide)).mono ?_;rintro e w5 ⟨rfl,l5,hW5,hw5,n5,_⟩;have W5:=aA hW5;have R5:=aA (R4.out.trans hw5);have N5:=aA (N4.out.trans n5);have O5:=aA (aR O4.out n5.below);have F5:=aA (aE F4.out n5);have Y5:=aA (aM Y4.out (by omega) n5);obtain⟨d0,d1,d2,d3,d4,d5,d6⟩:=aI (aM X4.out (by omega) n5);have hl5:l5.length≤l4.length+2:=by simpa using aN hw5
    clear hW5 hw5 n5 W4 O4 F4 X4 Y4 N4 R4;go_wp2_with fail;refine (HXx.out B b _ _ _ _ W5 O5 (aA F5.out.1) F5.out.2.1 F5.out.2.2.1 F5.out.2.2.2 (by omega)).mono ?_;rintro e w6 ⟨rfl,l6,hW6,hw6,n6⟩;have W6:=aA hW6;have R6:=aA ((R5.out.trans hw6).of E.out);have N6:=aA (N5.out.trans n6);have Y6:=aA (aM Y5.out (by omega) n6);clear hW6 hw6 n6 W5 O5 F5 N5 R5 Y5 E d0 d1 d2 d3 d4 d5 d6;go_wp2_with fail;go_roundw
    case rel=>exact⟨0+1,l6,by omega,by go_num,W6.out,R6.out,N6.out,Y6.out⟩
    case measure=>simp [intOf];omega
   ·have E0:=aA (MI (ns.take j) ((ks.map textN).take j) m (textN x) (by have:=HNK.out;simp;omega) (Er (by omega) hjn));have E:=aA (show ([123]++pV (ns.take j) ((ks.map textN).take j))++[44,32]++m.data.toList++[58,32]++(textN x).e=[123]++pV (ns.take (j+1)) ((ks.map textN).take (j+1)) by rw [HTT.out,HTN.out,E0.out];simp only [nP,List.append_assoc,List.cons_append,List.nil_append]);rw [E0.out] at hmono1;simp only [nP,List.length_append,List.length_cons,List.length_nil] at hmono1;rw [HMZ.out] at hmono1;have dj:decide ((0:Int)<(j:Int))=true:=decide_eq_true (by omega);clear E0;go_wp2_with fail;refine (dH ⟨#[44,32]⟩ (by simp) W2 (by omega) (by decide)).mono ?_;rintro e w3 ⟨rfl,l3,hW3,hw3,n3,_⟩;have W3:=aA hW3;have R3:=aA (R2.out.trans hw3);have N3:=aA (N2.out.trans n3);have O3:=aA (aR O2.out n3.below);have F3:=aA (aE F2.out n3);have X3:=aA (aM X2.out (by omega) n3);have Y3:=aA (aM Y2.out (by omega) n3);have V3:=aA (bF n3.below hvB V2.out);have hl3:l3.length≤lj.length+2:=by simpa using aN hw3
    clear hW3 hw3 n3 W2 O2 F2 X2 Y2 V2 N2 R2;have S0:Hid ((Near B b w w3∧kZ w.heap.size 7 o n s (.slice (some ⟨v,vo,none⟩) ns.length q1) (.slice (some ⟨t,off,none⟩) ks.length q2) p w3∧w.heap.size≠b∧v<B)∧w3.cell? ⟨w.heap.size,4,none⟩=some (.slice (some ⟨v,vo,none⟩) ns.length q1)∧w3.cell? ⟨v,vo+j,none⟩=some (.string m)):=⟨⟨N3.out,Y3.out,hgb,hvB⟩,(aI Y3.out).2.2.2.2.1,V3.out⟩
    go_wp2_with fail;go_region_held3 (fun a=>(Near B b w a∧kZ w.heap.size 7 o n s (.slice (some ⟨v,vo,none⟩) ns.length q1) (.slice (some ⟨t,off,none⟩) ks.length q2) p a∧w.heap.size≠b∧v<B)∧a.cell? ⟨w.heap.size,4,none⟩=some (.slice (some ⟨v,vo,none⟩) ns.length q1)∧a.cell? ⟨v,vo+j,none⟩=some (.string m))
     (first | exact yY (by assumption) n4 | exact yY S0.out (aL _ _ _) | exact yY (by assumption) (aL _ _ _))
     (first
      | (go_at_call 74;refine (dH m (by simp [HM0.out]) (aA (iZ W3.out)) (by omega) (by omega)).mono ?_;rintro e wx ⟨rfl,l4,hW4,hw4,n4,ne4⟩))
    rename_i hz;have nn4:=(aL B b _).trans n4;have W4:=aA hW4;have R4:=aA (R3.out.trans hw4);have N4:=aA (N3.out.trans nn4);have O4:=aA (aR O3.out nn4.below);have F4:=aA (aE F3.out nn4);have X4:=aA (aM X3.out (by omega) nn4);have Y4:=aA (aM Y3.out (by omega) nn4);have hl4:l4.length≤l3.length+m.data.toList.length:=aN hw4;rw [HMZ.out] at hl4;clear hz hW4 hw4 n4 nn4 S0 W3 O3 F3 X3 Y3 N3 R3;go_wp2_with fail;refine (dH ⟨#[58,32]⟩ (by simp) W4 (by omega) (by decide)).mono ?_;rintro e w5 ⟨rfl,l5,hW5,hw5,n5,_⟩;have W5:=aA hW5;have R5:=aA (R4.out.trans hw5);have N5:=aA (N4.out.trans n5);have O5:=aA (aR O4.out n5.below);have F5:=aA (aE F4.out n5);have Y5:=aA (aM Y4.out (by omega) n5);obtain⟨d0,d1,d2,d3,d4,d5,d6⟩:=aI (aM X4.out (by omega) n5);have hl5:l5.length≤l4.length+2:=by simpa using aN hw5
    clear hW5 hw5 n5 W4 O4 F4 X4 Y4 N4 R4;go_wp2_with fail;refine (HXx.out B b _ _ _ _ W5 O5 (aA F5.out.1) F5.out.2.1 F5.out.2.2.1 F5.out.2.2.2 (by omega)).mono ?_;rintro e w6 ⟨rfl,l6,hW6,hw6,n6⟩;have W6:=aA hW6;have R6:=aA ((R5.out.trans hw6).of E.out);have N6:=aA (N5.out.trans n6);have Y6:=aA (aM Y5.out (by omega) n6);clear hW6 hw6 n6 W5 O5 F5 N5 R5 Y5 E d0 d1 d2 d3 d4 d5 d6;go_wp2_with fail;go_roundw
    case rel=>exact⟨j+1,l6,by omega,by go_num,W6.out,R6.out,N6.out,Y6.out⟩
    case measure=>simp [intOf];omega
  ·have e:(ks.map textN).take j=ks.map textN:=List.take_of_length_le (by simp;omega);have e':ns.take j=ns:=List.take_of_length_le (by have:=HNK.out;omega);rw [e,e'] at hw;have W2:=aA hW;have R2:=aA hw;have N2:=aA hn;clear hW hw hn hbx e e';go_wp2_with fail;refine (eO 125 _ rfl W2 (by omega)).mono ?_;rintro e w3 ⟨rfl,l3,hW3,hw3,n3,_⟩;have D:=aA (bQ hW3 (R2.out.trans hw3) (show [123]++pV ns (ks.map textN)++[125]=pZ ns (ks.map textN) by rw [HT.out,List.append_assoc]) (N2.out.trans n3));clear hW3 hw3 n3;go_wp2_with fail;go_end0
   exact D.out
def mx (t:Tx):Nat:=max t.e.length (max t.s.length t.b.length)
def oP (l:List Tx):Nat:=(l.map fun t=>mx t+4).sum
theorem Ey (t:Tx):t.e.length≤mx t:=by unfold mx;omega
theorem Sm (t:Tx):t.s.length≤mx t:=by unfold mx;omega
theorem So (t:Tx):t.b.length≤mx t:=by unfold mx;omega
theorem lF (t:Tx) (l:List Tx):oP (t::l)=mx t+4+oP l:=by simp [oP]
theorem BY:∀ l:List Tx,(nZ l).length≤oP l
 | []=>by simp [nZ]
 | t::l=>by
  have:=BY l;have:=Ey t;rw [lF];simp only [nZ,List.flatMap_cons,List.length_append,List.length_cons] at *
  omega
theorem wD:∀ l:List Tx,(fU l).length≤oP l
 | []=>by simp [fU]
 | t::l=>by
  have:=wD l;have:=Sm t;rw [lF];simp only [fU,List.flatMap_cons,List.length_append,List.length_cons] at *
  omega
theorem Pl (l:List Tx):(jU l).length≤oP l:=by
 cases l with
 | nil=>simp [jU]
 | cons t l=>
  have:=BY l;have:=Ey t;rw [lF,jU,List.length_append];omega
theorem Gf (l:List Tx):(jE l).length≤oP l+2:=by
 have:=Pl l;unfold jE;simp;omega
theorem Dt (l:List Tx):(blockT l).length≤oP l+3:=by
 have:=wD l;unfold blockT;split<;>simp<;>omega
theorem Gg (l:List Tx):(dX l).length≤oP l:=by
 cases l with
 | nil=>simp [dX]
 | cons t l=>
  have:=wD l;have:=Sm t;rw [lF,dX,List.length_append];omega
theorem Pm (l:List Tx):mx (sM l)+mx (Cr l)+mx (Ot l)≤oP l:=by
 have hn:mx Tx.none=0:=rfl;match l with
 | []=>simp [sM,Cr,Ot,hn]
 | [x]=>simp [sM,Cr,Ot,hn,oP]<;>omega
 | [x,y]=>simp [sM,Cr,Ot,hn,oP]<;>omega
 | x::y::z::r=>simp [sM,Cr,Ot,oP]<;>omega
theorem Pn (l:List Tx):mx (sM l)+oP l.tail≤oP l:=by
 have hn:mx Tx.none=0:=rfl;cases l with
 | nil=>simp [sM,hn,oP]
 | cons x r=>rw [lF];simp [sM]<;>omega
theorem kJ (x:Tx) (r:Int):(cG x r).length≤mx x+2:=by
 have:=Ey x;unfold cG;split
 ·omega
 ·simp;omega
theorem Ca:∀ (ns:List ByteArray) (l:List Tx),(∀ x∈ns,x.size≤100)→(iE ns l).length≤oP l+102*ns.length
 | [],l,_=>by simp [iE]
 | s::ns,[],_=>by simp [iE]
 | s::ns,t::l,h=>by
  have:=Ca ns l (fun x hx=>h x (by simp [hx]));have h1:=h s (by simp);have:=Ey t;have:=cB s;rw [lF];simp only [iE,nP,List.length_append,List.length_cons];omega
theorem QO (ns:List ByteArray) (l:List Tx) (h:∀ x∈ns,x.size≤100) (hn:ns.length≤60):(pZ ns l).length≤oP l+7000:=by
 cases ns with
 | nil=>simp [pZ]
 | cons s ns=>
  cases l with
  | nil=>simp [pZ]
  | cons t l=>
   have:=Ca ns l (fun x hx=>h x (by simp [hx]));have h1:=h s (by simp);have:=Ey t;have:=cB s;rw [lF];simp only [List.length_cons] at hn;simp only [pZ,nP,List.length_append,List.length_cons,List.length_nil];omega
theorem Po (ns:List ByteArray) (h:∀ x∈ns,x.size≤100) (hn:ns.length≤60):(oI ns).length≤7000:=by
 have key:∀ ns:List ByteArray,(∀ x∈ns,x.size≤100)→(ns.flatMap fun x=>44::32::x.data.toList).length≤102*ns.length:=by
  intro ns;induction ns with
  | nil=>intro _;simp
  | cons s ns ih=>
   intro h;have:=ih (fun x hx=>h x (by simp [hx]));have h1:=h s (by simp);have:=cB s;simp only [List.flatMap_cons,List.length_append,List.length_cons] at *
   omega
 cases ns with
 | nil=>simp [oI]
 | cons s ns=>
  have:=key ns (fun x hx=>h x (by simp [hx]));have h1:=h s (by simp);have:=cB s;simp only [List.length_cons] at hn;simp only [oI,List.length_append];omega
theorem Pp (k n:Int) (s:ByteArray) (h:s.size≤600):(iU k n s).length≤2500:=by
 have h1:=EB n;have h2:=Cf s.data.toList;have h3:=cB s;unfold iU;split
 ·simp
 split
 ·simp
 split
 ·split<;>simp
 split
 ·omega
 split<;>omega
theorem MR (o:Int):(signT o).length≤2:=by
 unfold signT;split
 ·simp
 ·rw [List.getD_eq_getElem?_getD];cases h:tsgnL[o.toNat]? with
  | none=>simp
  | some x=>
   have hx:=List.mem_of_getElem? h;have:∀ y∈tsgnL,y.length≤2:=by decide
   simpa using this x hx
theorem Jq (o:Int):(builtT o).1.length≤100:=by
 unfold builtT;split
 ·simp
 ·rw [List.getD_eq_getElem?_getD];cases h:builtL[o.toNat]? with
  | none=>simp
  | some x=>
   have hx:=List.mem_of_getElem? h;have:∀ y∈builtL,y.1.length≤100:=by decide
   simpa using this x hx
theorem Pq (k o n:Int) (s:ByteArray) (ns:List ByteArray) (l:List Tx) (hs:s.size≤600) (h:∀ x∈ns,x.size≤100) (hn:ns.length≤60):(exprT k o n s ns l).length≤oP l+9000:=by
 have a:=Pm l;have t:=Pn l;have ob:=QO ns l h hn;have jo:=Po ns h hn;have bl:=Dt l;have ag:=Gf l;have ag2:=Gf l.tail;have wd:=Pp k n s hs;have sg:=MR o;have bt:=Jq o;have sz:=cB s;have t7:=kJ (sM l) 7;have t8:=kJ (sM l) 8;have e1:=Ey (Cr l);unfold exprT;split
 ·omega
 split
 ·simp only [List.length_append,List.length_cons,List.length_nil];omega
 split
 ·simp only [List.length_cons];omega
 split
 ·have:=kJ (sM l) (rankT 10 o);have:=kJ (Cr l) (rankT 10 o+1);simp only [fT,List.length_append,List.length_cons];omega
 split
 ·have:=kJ (sM l) 2;have:=kJ (Cr l) (2+1);simp only [fT,List.length_append,List.length_cons,List.length_nil];omega
 split
 ·have:=kJ (sM l) 1;have:=kJ (Cr l) (1+1);simp only [fT,List.length_append,List.length_cons,List.length_nil];omega
 split
 ·simp only [lQ,List.length_append,List.length_cons];omega
 split
 ·simp only [hM,List.length_append,List.length_cons,List.length_nil];omega
 split
 ·have:=kJ (sM l) (if (sM l).kind=13 then 9 else 8);simp only [List.length_append];omega
 split
 ·simp only [lQ,List.length_append,List.length_cons];omega
 split
 ·simp only [List.length_append];omega
 ·omega
theorem Pr (k:Int) (s:ByteArray) (l:List Tx) (hs:s.size≤600):(stmtT k s l).length≤oP l+9000:=by
 have a:=Pm l;have sz:=cB s;have t8:=kJ (sM l) 8;have e0:=Ey (sM l);have e1:=Ey (Cr l);have e2:=Ey (Ot l);have b1:=So (Cr l);have b2:=So (Ot l);have sh:(By k s l).length≤oP l+8000:=by
  unfold By;split
  ·simp only [dC,List.length_append,List.length_cons,List.length_nil];omega
  split
  ·simp only [dC,List.length_append,List.length_cons];omega
  split
  ·simp only [lQ,dC,List.length_append,List.length_cons];omega
  split
  ·simp only [hM,dC,List.length_append,List.length_cons,List.length_nil];omega
  split
  ·simp only [lQ,List.length_append,List.length_cons,List.length_nil];omega
  split
  ·simp only [hM,List.length_append,List.length_cons,List.length_nil];omega
  split
  ·simp only [List.length_append,List.length_cons,List.length_nil];omega
  split
  ·simp only [List.length_append,List.length_cons,List.length_nil];omega
  split
  ·omega
  ·simp
 unfold stmtT;split
 ·split<;>simp only [dR,List.length_append,List.length_cons,List.length_nil]<;>omega
 split
 ·simp only [dR,List.length_append,List.length_cons,List.length_nil];omega
 ·simp only [List.length_append,List.length_cons,List.length_nil];omega
theorem Ps (x:Nd):dL x=true→mx (textN x)+4≤10010*bM x:=by
 refine Nd.ind (P:=fun x=>dL x=true→mx (textN x)+4≤10010*bM x) ?_ x;intro k o n s ns ks p ih hs;obtain⟨h600,h60,h100,hsk⟩:=lO hs;have key:oP (ks.map textN)≤10010*bW ks:=by
  clear hs;induction ks with
  | nil=>simp [oP]
  | cons y r ih2=>
   have h1:=ih y (by simp) (hsk y (by simp));have h2:=ih2 (fun z hz=>ih z (by simp [hz])) (fun z hz=>hsk z (by simp [hz]));rw [List.map_cons,lF,bW];omega
 have he:=Pq k o n s ns (ks.map textN) h600 h100 h60;have hst:=Pr k s (ks.map textN) h600;have hb:=Dt (ks.map textN);rw [mX,bM];unfold mx;simp only;omega
theorem MS (x:Nd) (hs:dL x=true) (hc:bM x≤1000):(nQ x).length≤100000000:=by
 obtain⟨k,o,n,s,ns,ks,p⟩:=x;obtain⟨_,_,_,hsk⟩:=lO hs;have key:oP (ks.map textN)≤10010*bW ks:=by
  clear hs hc;induction ks with
  | nil=>simp [oP]
  | cons y r ih2=>
   have h1:=Ps y (hsk y (by simp));have h2:=ih2 (fun z hz=>hsk z (by simp [hz]));rw [List.map_cons,lF,bW];omega
 have:=Gg (ks.map textN);simp only [bM] at hc;unfold nQ;simp only [Nd.kids];omega
end Go.Proofs.YtdnnmjhfidimcaaGreatDoor
