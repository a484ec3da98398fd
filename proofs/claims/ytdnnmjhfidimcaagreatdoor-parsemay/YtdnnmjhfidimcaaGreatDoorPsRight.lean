/- Right nodes, kind by kind. -/
import Derived.Test.YtdnnmjhfidimcaaGreatDoorJoint4
namespace Go.Proofs.YtdnnmjhfidimcaaGreatDoor
open Go.RowKit
inductive Rt:Nat→Nd→Prop
 | null (p:Int):Rt 1 (.mk 1 0 0 bz [] [] p)
 | bool (n:Int) (p:Int) (hn:n=0∨n=1):Rt 1 (.mk 2 0 n bz [] [] p)
 | int (n:Int) (p:Int) (hn:0≤n∧n≤4611686018427387903):Rt 1 (.mk 3 0 n bz [] [] p)
 | str (s:ByteArray) (p:Int) (hs:s.size≤256):Rt 1 (.mk 4 0 0 s [] [] p)
 | name (s:ByteArray) (p:Int) (hs:properB s=true):Rt 1 (.mk 5 0 0 s [] [] p)
 | this (p:Int):Rt 1 (.mk 6 0 0 bz [] [] p)
 | obj (ns:List ByteArray) (ks:List Nd) (p:Int) (hl:ks.length=ns.length) (hm:ns.length≤40) (hns:∀ s∈ns,dH s=true) (hk:∀ x∈ks,Rt 1 x):Rt 1 (.mk 7 0 0 bz ns ks p)
 | fn (ns:List ByteArray) (ks:List Nd) (p:Int) (hm:ns.length≤6) (hns:∀ s∈ns,properB s=true) (hc:ks.length≤40) (hk:∀ x∈ks,Rt 2 x):Rt 1 (.mk 8 0 0 bz ns ks p)
 | un (o:Int) (x:Nd) (p:Int) (ho:o=1∨o=2) (hx:Rt 1 x):Rt 1 (.mk 9 o 0 bz [] [x] p)
 | bin (o:Int) (x:Nd) (y:Nd) (p:Int) (ho:1≤o∧o≤11) (hx:Rt 1 x) (hy:Rt 1 y):Rt 1 (.mk 10 o 0 bz [] [x,y] p)
 | and (x:Nd) (y:Nd) (p:Int) (hx:Rt 1 x) (hy:Rt 1 y):Rt 1 (.mk 11 0 0 bz [] [x,y] p)
 | or (x:Nd) (y:Nd) (p:Int) (hx:Rt 1 x) (hy:Rt 1 y):Rt 1 (.mk 12 0 0 bz [] [x,y] p)
 | get (s:ByteArray) (x:Nd) (p:Int) (hs:dH s=true) (hx:Rt 1 x):Rt 1 (.mk 13 0 0 s [] [x] p)
 | index (x:Nd) (y:Nd) (p:Int) (hx:Rt 1 x) (hy:Rt 1 y):Rt 1 (.mk 14 0 0 bz [] [x,y] p)
 | call (x:Nd) (ks:List Nd) (p:Int) (hc:ks.length≤6) (hx:Rt 1 x) (hk:∀ x∈ks,Rt 1 x):Rt 1 (.mk 15 0 0 bz [] (x::ks) p)
 | meth (s:ByteArray) (x:Nd) (ks:List Nd) (p:Int) (hs:dH s=true) (hc:ks.length≤6) (hx:Rt 1 x) (hk:∀ x∈ks,Rt 1 x):Rt 1 (.mk 16 0 0 s [] (x::ks) p)
 | built (o:Int) (ks:List Nd) (p:Int) (ho:1≤o∧o≤7) (hc:ks.length=(builtT o).2) (hk:∀ x∈ks,Rt 1 x):Rt 1 (.mk 17 o 0 bz [] ks p)
 | slet (s:ByteArray) (x:Nd) (p:Int) (hs:properB s=true) (hx:Rt 1 x):Rt 2 (.mk 21 0 0 s [] [x] p)
 | assign (s:ByteArray) (x:Nd) (p:Int) (hs:properB s=true) (hx:Rt 1 x):Rt 2 (.mk 22 0 0 s [] [x] p)
 | set (s:ByteArray) (x:Nd) (y:Nd) (p:Int) (hs:dH s=true) (hx:Rt 1 x) (hy:Rt 1 y):Rt 2 (.mk 23 0 0 s [] [x,y] p)
 | setix (x:Nd) (y:Nd) (z:Nd) (p:Int) (hx:Rt 1 x) (hy:Rt 1 y) (hz:Rt 1 z):Rt 2 (.mk 24 0 0 bz [] [x,y,z] p)
 | del (s:ByteArray) (x:Nd) (p:Int) (hs:dH s=true) (hx:Rt 1 x):Rt 2 (.mk 25 0 0 s [] [x] p)
 | delix (x:Nd) (y:Nd) (p:Int) (hx:Rt 1 x) (hy:Rt 1 y):Rt 2 (.mk 26 0 0 bz [] [x,y] p)
 | print (x:Nd) (p:Int) (hx:Rt 1 x):Rt 2 (.mk 27 0 0 bz [] [x] p)
 | iff (x:Nd) (y:Nd) (z:Nd) (p:Int) (hx:Rt 1 x) (hy:Rt 3 y) (hz:Rt 3 z):Rt 2 (.mk 28 0 0 bz [] [x,y,z] p)
 | whil (x:Nd) (y:Nd) (p:Int) (hx:Rt 1 x) (hy:Rt 3 y):Rt 2 (.mk 30 0 0 bz [] [x,y] p)
 | ret (x:Nd) (p:Int) (hx:Rt 1 x):Rt 2 (.mk 31 0 0 bz [] [x] p)
 | sexpr (x:Nd) (p:Int) (hx:Rt 1 x):Rt 2 (.mk 32 0 0 bz [] [x] p)
 | block (ks:List Nd) (p:Int) (hc:ks.length≤40) (hk:∀ x∈ks,Rt 2 x):Rt 3 (.mk 29 0 0 bz [] ks p)
theorem eC {s:ByteArray} (h:s.size=0):s=bz:=by
 apply ByteArray.ext;have:s.data.size=0:=h;exact Array.eq_empty_of_size_eq_zero this
theorem pD {ks:List Nd} (h:ks.length=2):∃ x y,ks=[x,y]:=by
 match ks,h with
 | [x,y],_=>exact⟨x,y,rfl⟩
theorem Bz {ks:List Nd} (h:ks.length=3):∃ x y z,ks=[x,y,z]:=by
 match ks,h with
 | [x,y,z],_=>exact⟨x,y,z,rfl⟩
theorem zE {k:Int} : ∀ (ks:List Nd) (i:Nat),cL ks k i=true→∀ (j:Nat) (h:j<ks.length),rightN ks[j] (bJ k (i+j))=true
 | x::r,i,h,0,_=>by rw [cL,Bool.and_eq_true] at h;exact h.1
 | x::r,i,h,j+1,hj=>by
  rw [cL,Bool.and_eq_true] at h;have:=zE r (i+1) h.2 j (by simpa using hj);rw [show i+(j+1)=i+1+j by omega];simpa using this
theorem bT {k o n:Int} {s:ByteArray} {ns:List ByteArray} {ks:List Nd} {p:Int} {a:Nat} (h:rightN (.mk k o n s ns ks p) a=true) :
  jS k=a∧cT k o=true∧bQ k n=true∧bM k s=true∧cR k ns=true∧bN k o ns.length ks.length=true∧∀ (j:Nat) (h:j<ks.length),rightN ks[j] (bJ k j)=true:=by
 rw [aQ,Bool.and_eq_true,Bool.and_eq_true,beq_iff_eq] at h;obtain⟨h1,h2,h3⟩:=h;unfold kD at h2;simp only [Bool.and_eq_true] at h2;obtain⟨a1,a2,a3,a4,a5⟩:=h2;exact⟨h1,a1,a2,a3,a4,a5,fun j hj=>by simpa using zE ks 0 h3 j hj⟩
theorem oH {k:Int} {ks:List Nd} {a:Nat} (hw:∀ i,bJ k i=a) (h:∀ (j:Nat) (h:j<ks.length),rightN ks[j] (bJ k j)=true):∀ x∈ks,rightN x a=true:=by
 intro x hx;obtain⟨j,hj,rfl⟩:=List.getElem_of_mem hx;rw [← hw j];exact h j hj
theorem LH {k:Int} {a:Nat} (h:jS k=a) (ha:a=1∨a=2∨a=3) :
  (a=1∧(k=1∨k=2∨k=3∨k=4∨k=5∨k=6∨k=7∨k=8∨k=9∨k=10∨k=11∨k=12∨k=13∨k=14∨k=15∨k=16∨k=17))∨
  (a=2∧(k=21∨k=22∨k=23∨k=24∨k=25∨k=26∨k=27∨k=28∨k=30∨k=31∨k=32))∨(a=3∧k=29):=by
 unfold jS at h;split at h
 ·omega
 split at h
 ·omega
 split at h
 ·omega
 ·omega
theorem JC {o n:Int} {s:ByteArray} {ns:List ByteArray} {ks:List Nd} {p:Int} (ih:∀ x∈ks,∀ a,(a=1∨a=2∨a=3)→rightN x a=true→Rt a x) (h:rightN (.mk 1 o n s ns ks p) 1=true):Rt 1 (.mk 1 o n s ns ks p):=by
 obtain⟨-,ho,hn,hs,hns,hc,hk⟩:=bT h;obtain rfl:o=0:=by simpa [cT] using ho
 obtain rfl:n=0:=by simpa [bQ] using hn
 obtain rfl:s=bz:=eC (by simpa [bM] using hs);obtain rfl:ns=[]:=by simpa [cR] using hns
 obtain rfl:ks=[]:=by simpa [bN] using hc
 exact .null p
theorem JD {o n:Int} {s:ByteArray} {ns:List ByteArray} {ks:List Nd} {p:Int} (ih:∀ x∈ks,∀ a,(a=1∨a=2∨a=3)→rightN x a=true→Rt a x) (h:rightN (.mk 2 o n s ns ks p) 1=true):Rt 1 (.mk 2 o n s ns ks p):=by
 obtain⟨-,ho,hn,hs,hns,hc,hk⟩:=bT h;obtain rfl:o=0:=by simpa [cT] using ho
 have hn':n=0∨n=1:=by simpa [bQ] using hn
 obtain rfl:s=bz:=eC (by simpa [bM] using hs);obtain rfl:ns=[]:=by simpa [cR] using hns
 obtain rfl:ks=[]:=by simpa [bN] using hc
 exact .bool n p hn'
theorem JE {o n:Int} {s:ByteArray} {ns:List ByteArray} {ks:List Nd} {p:Int} (ih:∀ x∈ks,∀ a,(a=1∨a=2∨a=3)→rightN x a=true→Rt a x) (h:rightN (.mk 3 o n s ns ks p) 1=true):Rt 1 (.mk 3 o n s ns ks p):=by
 obtain⟨-,ho,hn,hs,hns,hc,hk⟩:=bT h;obtain rfl:o=0:=by simpa [cT] using ho
 have hn':0≤n∧n≤4611686018427387903:=by simpa [bQ] using hn
 obtain rfl:s=bz:=eC (by simpa [bM] using hs);obtain rfl:ns=[]:=by simpa [cR] using hns
 obtain rfl:ks=[]:=by simpa [bN] using hc
 exact .int n p hn'
theorem JF {o n:Int} {s:ByteArray} {ns:List ByteArray} {ks:List Nd} {p:Int} (ih:∀ x∈ks,∀ a,(a=1∨a=2∨a=3)→rightN x a=true→Rt a x) (h:rightN (.mk 4 o n s ns ks p) 1=true):Rt 1 (.mk 4 o n s ns ks p):=by
 obtain⟨-,ho,hn,hs,hns,hc,hk⟩:=bT h;obtain rfl:o=0:=by simpa [cT] using ho
 obtain rfl:n=0:=by simpa [bQ] using hn
 have hs':s.size≤256:=by simpa [bM] using hs
 obtain rfl:ns=[]:=by simpa [cR] using hns
 obtain rfl:ks=[]:=by simpa [bN] using hc
 exact .str s p hs'
theorem JG {o n:Int} {s:ByteArray} {ns:List ByteArray} {ks:List Nd} {p:Int} (ih:∀ x∈ks,∀ a,(a=1∨a=2∨a=3)→rightN x a=true→Rt a x) (h:rightN (.mk 5 o n s ns ks p) 1=true):Rt 1 (.mk 5 o n s ns ks p):=by
 obtain⟨-,ho,hn,hs,hns,hc,hk⟩:=bT h;obtain rfl:o=0:=by simpa [cT] using ho
 obtain rfl:n=0:=by simpa [bQ] using hn
 have hs':properB s=true:=by simpa [bM] using hs
 obtain rfl:ns=[]:=by simpa [cR] using hns
 obtain rfl:ks=[]:=by simpa [bN] using hc
 exact .name s p hs'
theorem JH {o n:Int} {s:ByteArray} {ns:List ByteArray} {ks:List Nd} {p:Int} (ih:∀ x∈ks,∀ a,(a=1∨a=2∨a=3)→rightN x a=true→Rt a x) (h:rightN (.mk 6 o n s ns ks p) 1=true):Rt 1 (.mk 6 o n s ns ks p):=by
 obtain⟨-,ho,hn,hs,hns,hc,hk⟩:=bT h;obtain rfl:o=0:=by simpa [cT] using ho
 obtain rfl:n=0:=by simpa [bQ] using hn
 obtain rfl:s=bz:=eC (by simpa [bM] using hs);obtain rfl:ns=[]:=by simpa [cR] using hns
 obtain rfl:ks=[]:=by simpa [bN] using hc
 exact .this p
theorem JI {o n:Int} {s:ByteArray} {ns:List ByteArray} {ks:List Nd} {p:Int} (ih:∀ x∈ks,∀ a,(a=1∨a=2∨a=3)→rightN x a=true→Rt a x) (h:rightN (.mk 7 o n s ns ks p) 1=true):Rt 1 (.mk 7 o n s ns ks p):=by
 obtain⟨-,ho,hn,hs,hns,hc,hk⟩:=bT h;obtain rfl:o=0:=by simpa [cT] using ho
 obtain rfl:n=0:=by simpa [bQ] using hn
 obtain rfl:s=bz:=eC (by simpa [bM] using hs);have hns':ns.length≤40∧∀ s∈ns,dH s=true:=by simpa [cR] using hns
 have hc':ks.length=ns.length:=by simpa [bN] using hc
 exact .obj ns ks p hc' hns'.1 hns'.2 (fun x hx=>ih x hx 1 (by simp) (oH (by intro i;simp [bJ]) hk x hx))
theorem JJ {o n:Int} {s:ByteArray} {ns:List ByteArray} {ks:List Nd} {p:Int} (ih:∀ x∈ks,∀ a,(a=1∨a=2∨a=3)→rightN x a=true→Rt a x) (h:rightN (.mk 8 o n s ns ks p) 1=true):Rt 1 (.mk 8 o n s ns ks p):=by
 obtain⟨-,ho,hn,hs,hns,hc,hk⟩:=bT h;obtain rfl:o=0:=by simpa [cT] using ho
 obtain rfl:n=0:=by simpa [bQ] using hn
 obtain rfl:s=bz:=eC (by simpa [bM] using hs);have hns':ns.length≤6∧∀ s∈ns,properB s=true:=by simpa [cR] using hns
 have hc':ks.length≤40:=by simpa [bN] using hc
 exact .fn ns ks p hns'.1 hns'.2 hc' (fun x hx=>ih x hx 2 (by simp) (oH (by intro i;simp [bJ]) hk x hx))
theorem JK {o n:Int} {s:ByteArray} {ns:List ByteArray} {ks:List Nd} {p:Int} (ih:∀ x∈ks,∀ a,(a=1∨a=2∨a=3)→rightN x a=true→Rt a x) (h:rightN (.mk 9 o n s ns ks p) 1=true):Rt 1 (.mk 9 o n s ns ks p):=by
 obtain⟨-,ho,hn,hs,hns,hc,hk⟩:=bT h;have ho':o=1∨o=2:=by simp [cT] at ho;omega
 obtain rfl:n=0:=by simpa [bQ] using hn
 obtain rfl:s=bz:=eC (by simpa [bM] using hs);obtain rfl:ns=[]:=by simpa [cR] using hns
 have hc':ks.length=1:=by simpa [bN] using hc
 obtain⟨x,rfl⟩:=List.length_eq_one_iff.1 hc';exact .un o x p ho' (ih x (by simp) 1 (by simp) (by simpa [bJ] using hk 0 (by simp)))
theorem Fm {o n:Int} {s:ByteArray} {ns:List ByteArray} {ks:List Nd} {p:Int} (ih:∀ x∈ks,∀ a,(a=1∨a=2∨a=3)→rightN x a=true→Rt a x) (h:rightN (.mk 10 o n s ns ks p) 1=true):Rt 1 (.mk 10 o n s ns ks p):=by
 obtain⟨-,ho,hn,hs,hns,hc,hk⟩:=bT h;have ho':1≤o∧o≤11:=by simpa [cT] using ho
 obtain rfl:n=0:=by simpa [bQ] using hn
 obtain rfl:s=bz:=eC (by simpa [bM] using hs);obtain rfl:ns=[]:=by simpa [cR] using hns
 have hc':ks.length=2:=by simpa [bN] using hc
 obtain⟨x,y,rfl⟩:=pD hc';exact .bin o x y p ho' (ih x (by simp) 1 (by simp) (by simpa [bJ] using hk 0 (by simp))) (ih y (by simp) 1 (by simp) (by simpa [bJ] using hk 1 (by simp)))
theorem Fo {o n:Int} {s:ByteArray} {ns:List ByteArray} {ks:List Nd} {p:Int} (ih:∀ x∈ks,∀ a,(a=1∨a=2∨a=3)→rightN x a=true→Rt a x) (h:rightN (.mk 11 o n s ns ks p) 1=true):Rt 1 (.mk 11 o n s ns ks p):=by
 obtain⟨-,ho,hn,hs,hns,hc,hk⟩:=bT h;obtain rfl:o=0:=by simpa [cT] using ho
 obtain rfl:n=0:=by simpa [bQ] using hn
 obtain rfl:s=bz:=eC (by simpa [bM] using hs);obtain rfl:ns=[]:=by simpa [cR] using hns
 have hc':ks.length=2:=by simpa [bN] using hc
 obtain⟨x,y,rfl⟩:=pD hc';exact .and x y p (ih x (by simp) 1 (by simp) (by simpa [bJ] using hk 0 (by simp))) (ih y (by simp) 1 (by simp) (by simpa [bJ] using hk 1 (by simp)))
theorem Fp {o n:Int} {s:ByteArray} {ns:List ByteArray} {ks:List Nd} {p:Int} (ih:∀ x∈ks,∀ a,(a=1∨a=2∨a=3)→rightN x a=true→Rt a x) (h:rightN (.mk 12 o n s ns ks p) 1=true):Rt 1 (.mk 12 o n s ns ks p):=by
 obtain⟨-,ho,hn,hs,hns,hc,hk⟩:=bT h;obtain rfl:o=0:=by simpa [cT] using ho
 obtain rfl:n=0:=by simpa [bQ] using hn
 obtain rfl:s=bz:=eC (by simpa [bM] using hs);obtain rfl:ns=[]:=by simpa [cR] using hns
 have hc':ks.length=2:=by simpa [bN] using hc
 obtain⟨x,y,rfl⟩:=pD hc';exact .or x y p (ih x (by simp) 1 (by simp) (by simpa [bJ] using hk 0 (by simp))) (ih y (by simp) 1 (by simp) (by simpa [bJ] using hk 1 (by simp)))
theorem Fq {o n:Int} {s:ByteArray} {ns:List ByteArray} {ks:List Nd} {p:Int} (ih:∀ x∈ks,∀ a,(a=1∨a=2∨a=3)→rightN x a=true→Rt a x) (h:rightN (.mk 13 o n s ns ks p) 1=true):Rt 1 (.mk 13 o n s ns ks p):=by
 obtain⟨-,ho,hn,hs,hns,hc,hk⟩:=bT h;obtain rfl:o=0:=by simpa [cT] using ho
 obtain rfl:n=0:=by simpa [bQ] using hn
 have hs':dH s=true:=by simpa [bM] using hs
 obtain rfl:ns=[]:=by simpa [cR] using hns
 have hc':ks.length=1:=by simpa [bN] using hc
 obtain⟨x,rfl⟩:=List.length_eq_one_iff.1 hc';exact .get s x p hs' (ih x (by simp) 1 (by simp) (by simpa [bJ] using hk 0 (by simp)))
theorem Fr {o n:Int} {s:ByteArray} {ns:List ByteArray} {ks:List Nd} {p:Int} (ih:∀ x∈ks,∀ a,(a=1∨a=2∨a=3)→rightN x a=true→Rt a x) (h:rightN (.mk 14 o n s ns ks p) 1=true):Rt 1 (.mk 14 o n s ns ks p):=by
 obtain⟨-,ho,hn,hs,hns,hc,hk⟩:=bT h;obtain rfl:o=0:=by simpa [cT] using ho
 obtain rfl:n=0:=by simpa [bQ] using hn
 obtain rfl:s=bz:=eC (by simpa [bM] using hs);obtain rfl:ns=[]:=by simpa [cR] using hns
 have hc':ks.length=2:=by simpa [bN] using hc
 obtain⟨x,y,rfl⟩:=pD hc';exact .index x y p (ih x (by simp) 1 (by simp) (by simpa [bJ] using hk 0 (by simp))) (ih y (by simp) 1 (by simp) (by simpa [bJ] using hk 1 (by simp)))
theorem Fs {o n:Int} {s:ByteArray} {ns:List ByteArray} {ks:List Nd} {p:Int} (ih:∀ x∈ks,∀ a,(a=1∨a=2∨a=3)→rightN x a=true→Rt a x) (h:rightN (.mk 15 o n s ns ks p) 1=true):Rt 1 (.mk 15 o n s ns ks p):=by
 obtain⟨-,ho,hn,hs,hns,hc,hk⟩:=bT h;obtain rfl:o=0:=by simpa [cT] using ho
 obtain rfl:n=0:=by simpa [bQ] using hn
 obtain rfl:s=bz:=eC (by simpa [bM] using hs);obtain rfl:ns=[]:=by simpa [cR] using hns
 have hc':1≤ks.length∧ks.length≤7:=by simpa [bN] using hc
 cases ks with
 | nil=>simp at hc'
 | cons x ks=>
  have hr:=fun y hy=>ih y hy 1 (by simp) (oH (by intro i;simp [bJ]) hk y hy)
  exact .call x ks p (by simp at hc';omega) (hr x (by simp)) (fun y hy=>hr y (by simp [hy]))
theorem Ft {o n:Int} {s:ByteArray} {ns:List ByteArray} {ks:List Nd} {p:Int} (ih:∀ x∈ks,∀ a,(a=1∨a=2∨a=3)→rightN x a=true→Rt a x) (h:rightN (.mk 16 o n s ns ks p) 1=true):Rt 1 (.mk 16 o n s ns ks p):=by
 obtain⟨-,ho,hn,hs,hns,hc,hk⟩:=bT h;obtain rfl:o=0:=by simpa [cT] using ho
 obtain rfl:n=0:=by simpa [bQ] using hn
 have hs':dH s=true:=by simpa [bM] using hs
 obtain rfl:ns=[]:=by simpa [cR] using hns
 have hc':1≤ks.length∧ks.length≤7:=by simpa [bN] using hc
 cases ks with
 | nil=>simp at hc'
 | cons x ks=>
  have hr:=fun y hy=>ih y hy 1 (by simp) (oH (by intro i;simp [bJ]) hk y hy)
  exact .meth s x ks p hs' (by simp at hc';omega) (hr x (by simp)) (fun y hy=>hr y (by simp [hy]))
theorem Fu {o n:Int} {s:ByteArray} {ns:List ByteArray} {ks:List Nd} {p:Int} (ih:∀ x∈ks,∀ a,(a=1∨a=2∨a=3)→rightN x a=true→Rt a x) (h:rightN (.mk 17 o n s ns ks p) 1=true):Rt 1 (.mk 17 o n s ns ks p):=by
 obtain⟨-,ho,hn,hs,hns,hc,hk⟩:=bT h;have ho':1≤o∧o≤7:=by simpa [cT] using ho
 obtain rfl:n=0:=by simpa [bQ] using hn
 obtain rfl:s=bz:=eC (by simpa [bM] using hs);obtain rfl:ns=[]:=by simpa [cR] using hns
 have hc':ks.length=(builtT o).2:=by simpa [bN] using hc
 exact .built o ks p ho' hc' (fun x hx=>ih x hx 1 (by simp) (oH (by intro i;simp [bJ]) hk x hx))
theorem Fv {o n:Int} {s:ByteArray} {ns:List ByteArray} {ks:List Nd} {p:Int} (ih:∀ x∈ks,∀ a,(a=1∨a=2∨a=3)→rightN x a=true→Rt a x) (h:rightN (.mk 21 o n s ns ks p) 2=true):Rt 2 (.mk 21 o n s ns ks p):=by
 obtain⟨-,ho,hn,hs,hns,hc,hk⟩:=bT h;obtain rfl:o=0:=by simpa [cT] using ho
 obtain rfl:n=0:=by simpa [bQ] using hn
 have hs':properB s=true:=by simpa [bM] using hs
 obtain rfl:ns=[]:=by simpa [cR] using hns
 have hc':ks.length=1:=by simpa [bN] using hc
 obtain⟨x,rfl⟩:=List.length_eq_one_iff.1 hc';exact .slet s x p hs' (ih x (by simp) 1 (by simp) (by simpa [bJ] using hk 0 (by simp)))
theorem Fw {o n:Int} {s:ByteArray} {ns:List ByteArray} {ks:List Nd} {p:Int} (ih:∀ x∈ks,∀ a,(a=1∨a=2∨a=3)→rightN x a=true→Rt a x) (h:rightN (.mk 22 o n s ns ks p) 2=true):Rt 2 (.mk 22 o n s ns ks p):=by
 obtain⟨-,ho,hn,hs,hns,hc,hk⟩:=bT h;obtain rfl:o=0:=by simpa [cT] using ho
 obtain rfl:n=0:=by simpa [bQ] using hn
 have hs':properB s=true:=by simpa [bM] using hs
 obtain rfl:ns=[]:=by simpa [cR] using hns
 have hc':ks.length=1:=by simpa [bN] using hc
 obtain⟨x,rfl⟩:=List.length_eq_one_iff.1 hc';exact .assign s x p hs' (ih x (by simp) 1 (by simp) (by simpa [bJ] using hk 0 (by simp)))
theorem FA {o n:Int} {s:ByteArray} {ns:List ByteArray} {ks:List Nd} {p:Int} (ih:∀ x∈ks,∀ a,(a=1∨a=2∨a=3)→rightN x a=true→Rt a x) (h:rightN (.mk 23 o n s ns ks p) 2=true):Rt 2 (.mk 23 o n s ns ks p):=by
 obtain⟨-,ho,hn,hs,hns,hc,hk⟩:=bT h;obtain rfl:o=0:=by simpa [cT] using ho
 obtain rfl:n=0:=by simpa [bQ] using hn
 have hs':dH s=true:=by simpa [bM] using hs
 obtain rfl:ns=[]:=by simpa [cR] using hns
 have hc':ks.length=2:=by simpa [bN] using hc
 obtain⟨x,y,rfl⟩:=pD hc';exact .set s x y p hs' (ih x (by simp) 1 (by simp) (by simpa [bJ] using hk 0 (by simp))) (ih y (by simp) 1 (by simp) (by simpa [bJ] using hk 1 (by simp)))
theorem FB {o n:Int} {s:ByteArray} {ns:List ByteArray} {ks:List Nd} {p:Int} (ih:∀ x∈ks,∀ a,(a=1∨a=2∨a=3)→rightN x a=true→Rt a x) (h:rightN (.mk 24 o n s ns ks p) 2=true):Rt 2 (.mk 24 o n s ns ks p):=by
 obtain⟨-,ho,hn,hs,hns,hc,hk⟩:=bT h;obtain rfl:o=0:=by simpa [cT] using ho
 obtain rfl:n=0:=by simpa [bQ] using hn
 obtain rfl:s=bz:=eC (by simpa [bM] using hs);obtain rfl:ns=[]:=by simpa [cR] using hns
 have hc':ks.length=3:=by simpa [bN] using hc
 obtain⟨x,y,z,rfl⟩:=Bz hc';exact .setix x y z p (ih x (by simp) 1 (by simp) (by simpa [bJ] using hk 0 (by simp))) (ih y (by simp) 1 (by simp) (by simpa [bJ] using hk 1 (by simp))) (ih z (by simp) 1 (by simp) (by simpa [bJ] using hk 2 (by simp)))
theorem FC {o n:Int} {s:ByteArray} {ns:List ByteArray} {ks:List Nd} {p:Int} (ih:∀ x∈ks,∀ a,(a=1∨a=2∨a=3)→rightN x a=true→Rt a x) (h:rightN (.mk 25 o n s ns ks p) 2=true):Rt 2 (.mk 25 o n s ns ks p):=by
 obtain⟨-,ho,hn,hs,hns,hc,hk⟩:=bT h;obtain rfl:o=0:=by simpa [cT] using ho
 obtain rfl:n=0:=by simpa [bQ] using hn
 have hs':dH s=true:=by simpa [bM] using hs
 obtain rfl:ns=[]:=by simpa [cR] using hns
 have hc':ks.length=1:=by simpa [bN] using hc
 obtain⟨x,rfl⟩:=List.length_eq_one_iff.1 hc';exact .del s x p hs' (ih x (by simp) 1 (by simp) (by simpa [bJ] using hk 0 (by simp)))
theorem FD {o n:Int} {s:ByteArray} {ns:List ByteArray} {ks:List Nd} {p:Int} (ih:∀ x∈ks,∀ a,(a=1∨a=2∨a=3)→rightN x a=true→Rt a x) (h:rightN (.mk 26 o n s ns ks p) 2=true):Rt 2 (.mk 26 o n s ns ks p):=by
 obtain⟨-,ho,hn,hs,hns,hc,hk⟩:=bT h;obtain rfl:o=0:=by simpa [cT] using ho
 obtain rfl:n=0:=by simpa [bQ] using hn
 obtain rfl:s=bz:=eC (by simpa [bM] using hs);obtain rfl:ns=[]:=by simpa [cR] using hns
 have hc':ks.length=2:=by simpa [bN] using hc
 obtain⟨x,y,rfl⟩:=pD hc';exact .delix x y p (ih x (by simp) 1 (by simp) (by simpa [bJ] using hk 0 (by simp))) (ih y (by simp) 1 (by simp) (by simpa [bJ] using hk 1 (by simp)))
theorem FE {o n:Int} {s:ByteArray} {ns:List ByteArray} {ks:List Nd} {p:Int} (ih:∀ x∈ks,∀ a,(a=1∨a=2∨a=3)→rightN x a=true→Rt a x) (h:rightN (.mk 27 o n s ns ks p) 2=true):Rt 2 (.mk 27 o n s ns ks p):=by
 obtain⟨-,ho,hn,hs,hns,hc,hk⟩:=bT h;obtain rfl:o=0:=by simpa [cT] using ho
 obtain rfl:n=0:=by simpa [bQ] using hn
 obtain rfl:s=bz:=eC (by simpa [bM] using hs);obtain rfl:ns=[]:=by simpa [cR] using hns
 have hc':ks.length=1:=by simpa [bN] using hc
 obtain⟨x,rfl⟩:=List.length_eq_one_iff.1 hc';exact .print x p (ih x (by simp) 1 (by simp) (by simpa [bJ] using hk 0 (by simp)))
theorem FF {o n:Int} {s:ByteArray} {ns:List ByteArray} {ks:List Nd} {p:Int} (ih:∀ x∈ks,∀ a,(a=1∨a=2∨a=3)→rightN x a=true→Rt a x) (h:rightN (.mk 28 o n s ns ks p) 2=true):Rt 2 (.mk 28 o n s ns ks p):=by
 obtain⟨-,ho,hn,hs,hns,hc,hk⟩:=bT h;obtain rfl:o=0:=by simpa [cT] using ho
 obtain rfl:n=0:=by simpa [bQ] using hn
 obtain rfl:s=bz:=eC (by simpa [bM] using hs);obtain rfl:ns=[]:=by simpa [cR] using hns
 have hc':ks.length=3:=by simpa [bN] using hc
 obtain⟨x,y,z,rfl⟩:=Bz hc';exact .iff x y z p (ih x (by simp) 1 (by simp) (by simpa [bJ] using hk 0 (by simp))) (ih y (by simp) 3 (by simp) (by simpa [bJ] using hk 1 (by simp))) (ih z (by simp) 3 (by simp) (by simpa [bJ] using hk 2 (by simp)))
theorem FG {o n:Int} {s:ByteArray} {ns:List ByteArray} {ks:List Nd} {p:Int} (ih:∀ x∈ks,∀ a,(a=1∨a=2∨a=3)→rightN x a=true→Rt a x) (h:rightN (.mk 30 o n s ns ks p) 2=true):Rt 2 (.mk 30 o n s ns ks p):=by
 obtain⟨-,ho,hn,hs,hns,hc,hk⟩:=bT h;obtain rfl:o=0:=by simpa [cT] using ho
 obtain rfl:n=0:=by simpa [bQ] using hn
 obtain rfl:s=bz:=eC (by simpa [bM] using hs);obtain rfl:ns=[]:=by simpa [cR] using hns
 have hc':ks.length=2:=by simpa [bN] using hc
 obtain⟨x,y,rfl⟩:=pD hc';exact .whil x y p (ih x (by simp) 1 (by simp) (by simpa [bJ] using hk 0 (by simp))) (ih y (by simp) 3 (by simp) (by simpa [bJ] using hk 1 (by simp)))
theorem FH {o n:Int} {s:ByteArray} {ns:List ByteArray} {ks:List Nd} {p:Int} (ih:∀ x∈ks,∀ a,(a=1∨a=2∨a=3)→rightN x a=true→Rt a x) (h:rightN (.mk 31 o n s ns ks p) 2=true):Rt 2 (.mk 31 o n s ns ks p):=by
 obtain⟨-,ho,hn,hs,hns,hc,hk⟩:=bT h;obtain rfl:o=0:=by simpa [cT] using ho
 obtain rfl:n=0:=by simpa [bQ] using hn
 obtain rfl:s=bz:=eC (by simpa [bM] using hs);obtain rfl:ns=[]:=by simpa [cR] using hns
 have hc':ks.length=1:=by simpa [bN] using hc
 obtain⟨x,rfl⟩:=List.length_eq_one_iff.1 hc';exact .ret x p (ih x (by simp) 1 (by simp) (by simpa [bJ] using hk 0 (by simp)))
theorem FI {o n:Int} {s:ByteArray} {ns:List ByteArray} {ks:List Nd} {p:Int} (ih:∀ x∈ks,∀ a,(a=1∨a=2∨a=3)→rightN x a=true→Rt a x) (h:rightN (.mk 32 o n s ns ks p) 2=true):Rt 2 (.mk 32 o n s ns ks p):=by
 obtain⟨-,ho,hn,hs,hns,hc,hk⟩:=bT h;obtain rfl:o=0:=by simpa [cT] using ho
 obtain rfl:n=0:=by simpa [bQ] using hn
 obtain rfl:s=bz:=eC (by simpa [bM] using hs);obtain rfl:ns=[]:=by simpa [cR] using hns
 have hc':ks.length=1:=by simpa [bN] using hc
 obtain⟨x,rfl⟩:=List.length_eq_one_iff.1 hc';exact .sexpr x p (ih x (by simp) 1 (by simp) (by simpa [bJ] using hk 0 (by simp)))
theorem FJ {o n:Int} {s:ByteArray} {ns:List ByteArray} {ks:List Nd} {p:Int} (ih:∀ x∈ks,∀ a,(a=1∨a=2∨a=3)→rightN x a=true→Rt a x) (h:rightN (.mk 29 o n s ns ks p) 3=true):Rt 3 (.mk 29 o n s ns ks p):=by
 obtain⟨-,ho,hn,hs,hns,hc,hk⟩:=bT h;obtain rfl:o=0:=by simpa [cT] using ho
 obtain rfl:n=0:=by simpa [bQ] using hn
 obtain rfl:s=bz:=eC (by simpa [bM] using hs);obtain rfl:ns=[]:=by simpa [cR] using hns
 have hc':ks.length≤40:=by simpa [bN] using hc
 exact .block ks p hc' (fun x hx=>ih x hx 2 (by simp) (oH (by intro i;simp [bJ]) hk x hx))
theorem DG (t:Nd):∀ a,(a=1∨a=2∨a=3)→rightN t a=true→Rt a t:=by
 refine Nd.ind (P:=fun t=>∀ a,(a=1∨a=2∨a=3)→rightN t a=true→Rt a t) ?_ t;intro k o n s ns ks p ih a ha h;have hk:=(bT h).1;rcases LH hk ha with ⟨rfl,h1⟩ | ⟨rfl,h2⟩ | ⟨rfl,rfl⟩
 ·rcases h1 with rfl | rfl | rfl | rfl | rfl | rfl | rfl | rfl | rfl | rfl | rfl | rfl | rfl | rfl | rfl | rfl | rfl
  ·exact JC ih h
  ·exact JD ih h
  ·exact JE ih h
  ·exact JF ih h
  ·exact JG ih h
  ·exact JH ih h
  ·exact JI ih h
  ·exact JJ ih h
  ·exact JK ih h
  ·exact Fm ih h
  ·exact Fo ih h
  ·exact Fp ih h
  ·exact Fq ih h
  ·exact Fr ih h
  ·exact Fs ih h
  ·exact Ft ih h
  ·exact Fu ih h
 ·rcases h2 with rfl | rfl | rfl | rfl | rfl | rfl | rfl | rfl | rfl | rfl | rfl
  ·exact Fv ih h
  ·exact Fw ih h
  ·exact FA ih h
  ·exact FB ih h
  ·exact FC ih h
  ·exact FD ih h
  ·exact FE ih h
  ·exact FF ih h
  ·exact FG ih h
  ·exact FH ih h
  ·exact FI ih h
 ·exact FJ ih h
theorem BA {k:Int} : ∀ (ks:List Nd) (i:Nat),(∀ (j:Nat) (h:j<ks.length),rightN ks[j] (bJ k (i+j))=true)→cL ks k i=true
 | [],i,_=>by rw [cL]
 | x::r,i,h=>by
  rw [cL,Bool.and_eq_true];refine⟨h 0 (by simp),BA r (i+1) fun j hj=>?_⟩;have:=h (j+1) (by simpa using hj);rw [show i+(j+1)=i+1+j by omega] at this;simpa using this
theorem lQ {k:Int} {a:Nat} (hw:∀ i,bJ k i=a) {ks:List Nd} (h:∀ x∈ks,rightN x a=true):cL ks k 0=true:=
 BA ks 0 fun j hj=>by rw [hw];exact h _ (List.getElem_mem hj)
set_option linter.unusedSimpArgs false in
theorem LI {a:Nat} {t:Nd} (h:Rt a t):rightN t a=true:=by
 have b0:bz.size=0:=rfl;induction h with
 | null p=>rw [aQ];simp [jS,kD,cT,bQ,bM,cR,bN,bJ,b0,cL]
 | bool n p hn=>rw [aQ];simp [jS,kD,cT,bQ,bM,cR,bN,bJ,b0,cL,hn]
 | int n p hn=>rw [aQ];simp [jS,kD,cT,bQ,bM,cR,bN,bJ,b0,cL,hn]
 | str s p hs=>rw [aQ];simp [jS,kD,cT,bQ,bM,cR,bN,bJ,b0,cL,hs]
 | name s p hs=>rw [aQ];simp [jS,kD,cT,bQ,bM,cR,bN,bJ,b0,cL,hs]
 | this p=>rw [aQ];simp [jS,kD,cT,bQ,bM,cR,bN,bJ,b0,cL]
 | obj ns ks p hl hm hns hk ik=>rw [aQ,lQ (a:=1) (by intro i;simp [bJ]) ik];simp [jS,kD,cT,bQ,bM,cR,bN,bJ,b0,hl,hm];exact hns
 | fn ns ks p hm hns hc hk ik=>rw [aQ,lQ (a:=2) (by intro i;simp [bJ]) ik];simp [jS,kD,cT,bQ,bM,cR,bN,bJ,b0,hc,hm];exact hns
 | un o x p ho hx ix=>rw [aQ];simp [jS,kD,cT,bQ,bM,cR,bN,bJ,b0,cL,ho,ix];omega
 | bin o x y p ho hx hy ix iy=>rw [aQ];simp [jS,kD,cT,bQ,bM,cR,bN,bJ,b0,cL,ho,ix,iy]
 | and x y p hx hy ix iy=>rw [aQ];simp [jS,kD,cT,bQ,bM,cR,bN,bJ,b0,cL,ix,iy]
 | or x y p hx hy ix iy=>rw [aQ];simp [jS,kD,cT,bQ,bM,cR,bN,bJ,b0,cL,ix,iy]
 | get s x p hs hx ix=>rw [aQ];simp [jS,kD,cT,bQ,bM,cR,bN,bJ,b0,cL,hs,ix]
 | index x y p hx hy ix iy=>rw [aQ];simp [jS,kD,cT,bQ,bM,cR,bN,bJ,b0,cL,ix,iy]
 | call x ks p hc hx hk ix ik=>rw [aQ,lQ (a:=1) (by intro i;simp [bJ]) (fun y hy=>(List.mem_cons.1 hy).elim (fun e=>e▸ix) (ik y))];simp [jS,kD,cT,bQ,bM,cR,bN,bJ,b0];omega
 | meth s x ks p hs hc hx hk ix ik=>rw [aQ,lQ (a:=1) (by intro i;simp [bJ]) (fun y hy=>(List.mem_cons.1 hy).elim (fun e=>e▸ix) (ik y))];simp [jS,kD,cT,bQ,bM,cR,bN,bJ,b0,hs];omega
 | built o ks p ho hc hk ik=>rw [aQ,lQ (a:=1) (by intro i;simp [bJ]) ik];simp [jS,kD,cT,bQ,bM,cR,bN,bJ,b0,ho,hc]
 | slet s x p hs hx ix=>rw [aQ];simp [jS,kD,cT,bQ,bM,cR,bN,bJ,b0,cL,hs,ix]
 | assign s x p hs hx ix=>rw [aQ];simp [jS,kD,cT,bQ,bM,cR,bN,bJ,b0,cL,hs,ix]
 | set s x y p hs hx hy ix iy=>rw [aQ];simp [jS,kD,cT,bQ,bM,cR,bN,bJ,b0,cL,hs,ix,iy]
 | setix x y z p hx hy hz ix iy iz=>rw [aQ];simp [jS,kD,cT,bQ,bM,cR,bN,bJ,b0,cL,ix,iy,iz]
 | del s x p hs hx ix=>rw [aQ];simp [jS,kD,cT,bQ,bM,cR,bN,bJ,b0,cL,hs,ix]
 | delix x y p hx hy ix iy=>rw [aQ];simp [jS,kD,cT,bQ,bM,cR,bN,bJ,b0,cL,ix,iy]
 | print x p hx ix=>rw [aQ];simp [jS,kD,cT,bQ,bM,cR,bN,bJ,b0,cL,ix]
 | iff x y z p hx hy hz ix iy iz=>rw [aQ];simp [jS,kD,cT,bQ,bM,cR,bN,bJ,b0,cL,ix,iy,iz]
 | whil x y p hx hy ix iy=>rw [aQ];simp [jS,kD,cT,bQ,bM,cR,bN,bJ,b0,cL,ix,iy]
 | ret x p hx ix=>rw [aQ];simp [jS,kD,cT,bQ,bM,cR,bN,bJ,b0,cL,ix]
 | sexpr x p hx ix=>rw [aQ];simp [jS,kD,cT,bQ,bM,cR,bN,bJ,b0,cL,ix]
 | block ks p hc hk ik=>rw [aQ,lQ (a:=2) (by intro i;simp [bJ]) ik];simp [jS,kD,cT,bQ,bM,cR,bN,bJ,b0,hc]
end Go.Proofs.YtdnnmjhfidimcaaGreatDoor
