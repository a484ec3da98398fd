/- Right nodes, kind by kind. A copy of a node with just the fields that its kind has; signs and built-in calls. Whether two trees are alike. -/
import Derived.Test.YtdnnmjhfidimcaaGreatDoorJoint4
import Derived.Test.YtdnnmjhfidimcaaGreatDoorJoint3
import Derived.Test.YtdnnmjhfidimcaaGreatDoorKey
import Derived.Test.YtdnnmjhfidimcaaGreatDoorJoint7
namespace Go.Proofs.YtdnnmjhfidimcaaGreatDoor
set_option maxHeartbeats 3200000
open Go.RowKit
inductive Rt:Nat→Nd→Prop
 | null (p:Int):Rt 1 (.mk 1 0 0 bz [] [] p)
 | bool (n:Int) (p:Int) (hn:n=0∨n=1):Rt 1 (.mk 2 0 n bz [] [] p)
 | int (n:Int) (p:Int) (hn:0≤n∧n≤4611686018427387903):Rt 1 (.mk 3 0 n bz [] [] p)
 | str (s:ByteArray) (p:Int) (hs:s.size≤256):Rt 1 (.mk 4 0 0 s [] [] p)
 | name (s:ByteArray) (p:Int) (hs:properB s=true):Rt 1 (.mk 5 0 0 s [] [] p)
 | this (p:Int):Rt 1 (.mk 6 0 0 bz [] [] p)
 | obj (ns:List ByteArray) (ks:List Nd) (p:Int) (hl:ks.length=ns.length) (hm:ns.length≤40) (hns:∀ s∈ns,dM s=true) (hk:∀ x∈ks,Rt 1 x):Rt 1 (.mk 7 0 0 bz ns ks p)
 | fn (ns:List ByteArray) (ks:List Nd) (p:Int) (hm:ns.length≤6) (hns:∀ s∈ns,properB s=true) (hc:ks.length≤40) (hk:∀ x∈ks,Rt 2 x):Rt 1 (.mk 8 0 0 bz ns ks p)
 | un (o:Int) (x:Nd) (p:Int) (ho:o=1∨o=2) (hx:Rt 1 x):Rt 1 (.mk 9 o 0 bz [] [x] p)
 | bin (o:Int) (x:Nd) (y:Nd) (p:Int) (ho:1≤o∧o≤11) (hx:Rt 1 x) (hy:Rt 1 y):Rt 1 (.mk 10 o 0 bz [] [x,y] p)
 | and (x:Nd) (y:Nd) (p:Int) (hx:Rt 1 x) (hy:Rt 1 y):Rt 1 (.mk 11 0 0 bz [] [x,y] p)
 | or (x:Nd) (y:Nd) (p:Int) (hx:Rt 1 x) (hy:Rt 1 y):Rt 1 (.mk 12 0 0 bz [] [x,y] p)
 | get (s:ByteArray) (x:Nd) (p:Int) (hs:dM s=true) (hx:Rt 1 x):Rt 1 (.mk 13 0 0 s [] [x] p)
 | index (x:Nd) (y:Nd) (p:Int) (hx:Rt 1 x) (hy:Rt 1 y):Rt 1 (.mk 14 0 0 bz [] [x,y] p)
 | call (x:Nd) (ks:List Nd) (p:Int) (hc:ks.length≤6) (hx:Rt 1 x) (hk:∀ x∈ks,Rt 1 x):Rt 1 (.mk 15 0 0 bz [] (x::ks) p)
 | meth (s:ByteArray) (x:Nd) (ks:List Nd) (p:Int) (hs:dM s=true) (hc:ks.length≤6) (hx:Rt 1 x) (hk:∀ x∈ks,Rt 1 x):Rt 1 (.mk 16 0 0 s [] (x::ks) p)
 | built (o:Int) (ks:List Nd) (p:Int) (ho:1≤o∧o≤7) (hc:ks.length=(builtT o).2) (hk:∀ x∈ks,Rt 1 x):Rt 1 (.mk 17 o 0 bz [] ks p)
 | slet (s:ByteArray) (x:Nd) (p:Int) (hs:properB s=true) (hx:Rt 1 x):Rt 2 (.mk 21 0 0 s [] [x] p)
 | assign (s:ByteArray) (x:Nd) (p:Int) (hs:properB s=true) (hx:Rt 1 x):Rt 2 (.mk 22 0 0 s [] [x] p)
 | set (s:ByteArray) (x:Nd) (y:Nd) (p:Int) (hs:dM s=true) (hx:Rt 1 x) (hy:Rt 1 y):Rt 2 (.mk 23 0 0 s [] [x,y] p)
 | setix (x:Nd) (y:Nd) (z:Nd) (p:Int) (hx:Rt 1 x) (hy:Rt 1 y) (hz:Rt 1 z):Rt 2 (.mk 24 0 0 bz [] [x,y,z] p)
 | del (s:ByteArray) (x:Nd) (p:Int) (hs:dM s=true) (hx:Rt 1 x):Rt 2 (.mk 25 0 0 s [] [x] p)
 | delix (x:Nd) (y:Nd) (p:Int) (hx:Rt 1 x) (hy:Rt 1 y):Rt 2 (.mk 26 0 0 bz [] [x,y] p)
 | print (x:Nd) (p:Int) (hx:Rt 1 x):Rt 2 (.mk 27 0 0 bz [] [x] p)
 | iff (x:Nd) (y:Nd) (z:Nd) (p:Int) (hx:Rt 1 x) (hy:Rt 3 y) (hz:Rt 3 z):Rt 2 (.mk 28 0 0 bz [] [x,y,z] p)
 | whil (x:Nd) (y:Nd) (p:Int) (hx:Rt 1 x) (hy:Rt 3 y):Rt 2 (.mk 30 0 0 bz [] [x,y] p)
 | ret (x:Nd) (p:Int) (hx:Rt 1 x):Rt 2 (.mk 31 0 0 bz [] [x] p)
 | sexpr (x:Nd) (p:Int) (hx:Rt 1 x):Rt 2 (.mk 32 0 0 bz [] [x] p)
 | block (ks:List Nd) (p:Int) (hc:ks.length≤40) (hk:∀ x∈ks,Rt 2 x):Rt 3 (.mk 29 0 0 bz [] ks p)
theorem eG {s:ByteArray} (h:s.size=0):s=bz:=by
 apply ByteArray.ext;have:s.data.size=0:=h;exact Array.eq_empty_of_size_eq_zero this
theorem qE {ks:List Nd} (h:ks.length=2):∃ x y,ks=[x,y]:=by
 match ks,h with
 | [x,y],_=>exact⟨x,y,rfl⟩
theorem CI {ks:List Nd} (h:ks.length=3):∃ x y z,ks=[x,y,z]:=by
 match ks,h with
 | [x,y,z],_=>exact⟨x,y,z,rfl⟩
theorem AM {k:Int} : ∀ (ks:List Nd) (i:Nat),cP ks k i=true→∀ (j:Nat) (h:j<ks.length),rightN ks[j] (bP k (i+j))=true
 | x::r,i,h,0,_=>by rw [cP,Bool.and_eq_true] at h;exact h.1
 | x::r,i,h,j+1,hj=>by
  rw [cP,Bool.and_eq_true] at h;have:=AM r (i+1) h.2 j (by simpa using hj);rw [show i+(j+1)=i+1+j by omega];simpa using this
theorem bY {k o n:Int} {s:ByteArray} {ns:List ByteArray} {ks:List Nd} {p:Int} {a:Nat} (h:rightN (.mk k o n s ns ks p) a=true) :
  kG k=a∧cW k o=true∧bU k n=true∧bR k s=true∧cU k ns=true∧bS k o ns.length ks.length=true∧∀ (j:Nat) (h:j<ks.length),rightN ks[j] (bP k j)=true:=by
 rw [aP,Bool.and_eq_true,Bool.and_eq_true,beq_iff_eq] at h;obtain⟨h1,h2,h3⟩:=h;unfold kP at h2;simp only [Bool.and_eq_true] at h2;obtain⟨a1,a2,a3,a4,a5⟩:=h2;exact⟨h1,a1,a2,a3,a4,a5,fun j hj=>by simpa using AM ks 0 h3 j hj⟩
theorem pC {k:Int} {ks:List Nd} {a:Nat} (hw:∀ i,bP k i=a) (h:∀ (j:Nat) (h:j<ks.length),rightN ks[j] (bP k j)=true):∀ x∈ks,rightN x a=true:=by
 intro x hx;obtain⟨j,hj,rfl⟩:=List.getElem_of_mem hx;rw [← hw j];exact h j hj
theorem Nb {k:Int} {a:Nat} (h:kG k=a) (ha:a=1∨a=2∨a=3) :
  (a=1∧(k=1∨k=2∨k=3∨k=4∨k=5∨k=6∨k=7∨k=8∨k=9∨k=10∨k=11∨k=12∨k=13∨k=14∨k=15∨k=16∨k=17))∨
  (a=2∧(k=21∨k=22∨k=23∨k=24∨k=25∨k=26∨k=27∨k=28∨k=30∨k=31∨k=32))∨(a=3∧k=29):=by
 unfold kG at h;split at h
 ·omega
 split at h
 ·omega
 split at h
 ·omega
 ·omega
theorem KZ {o n:Int} {s:ByteArray} {ns:List ByteArray} {ks:List Nd} {p:Int} (ih:∀ x∈ks,∀ a,(a=1∨a=2∨a=3)→rightN x a=true→Rt a x) (h:rightN (.mk 1 o n s ns ks p) 1=true):Rt 1 (.mk 1 o n s ns ks p):=by
 obtain⟨-,ho,hn,hs,hns,hc,hk⟩:=bY h;obtain rfl:o=0:=by simpa [cW] using ho
 obtain rfl:n=0:=by simpa [bU] using hn
 obtain rfl:s=bz:=eG (by simpa [bR] using hs);obtain rfl:ns=[]:=by simpa [cU] using hns
 obtain rfl:ks=[]:=by simpa [bS] using hc
 exact .null p
theorem La {o n:Int} {s:ByteArray} {ns:List ByteArray} {ks:List Nd} {p:Int} (ih:∀ x∈ks,∀ a,(a=1∨a=2∨a=3)→rightN x a=true→Rt a x) (h:rightN (.mk 2 o n s ns ks p) 1=true):Rt 1 (.mk 2 o n s ns ks p):=by
 obtain⟨-,ho,hn,hs,hns,hc,hk⟩:=bY h;obtain rfl:o=0:=by simpa [cW] using ho
 have hn':n=0∨n=1:=by simpa [bU] using hn
 obtain rfl:s=bz:=eG (by simpa [bR] using hs);obtain rfl:ns=[]:=by simpa [cU] using hns
 obtain rfl:ks=[]:=by simpa [bS] using hc
 exact .bool n p hn'
theorem Lb {o n:Int} {s:ByteArray} {ns:List ByteArray} {ks:List Nd} {p:Int} (ih:∀ x∈ks,∀ a,(a=1∨a=2∨a=3)→rightN x a=true→Rt a x) (h:rightN (.mk 3 o n s ns ks p) 1=true):Rt 1 (.mk 3 o n s ns ks p):=by
 obtain⟨-,ho,hn,hs,hns,hc,hk⟩:=bY h;obtain rfl:o=0:=by simpa [cW] using ho
 have hn':0≤n∧n≤4611686018427387903:=by simpa [bU] using hn
 obtain rfl:s=bz:=eG (by simpa [bR] using hs);obtain rfl:ns=[]:=by simpa [cU] using hns
 obtain rfl:ks=[]:=by simpa [bS] using hc
 exact .int n p hn'
theorem Lc {o n:Int} {s:ByteArray} {ns:List ByteArray} {ks:List Nd} {p:Int} (ih:∀ x∈ks,∀ a,(a=1∨a=2∨a=3)→rightN x a=true→Rt a x) (h:rightN (.mk 4 o n s ns ks p) 1=true):Rt 1 (.mk 4 o n s ns ks p):=by
 obtain⟨-,ho,hn,hs,hns,hc,hk⟩:=bY h;obtain rfl:o=0:=by simpa [cW] using ho
 obtain rfl:n=0:=by simpa [bU] using hn
 have hs':s.size≤256:=by simpa [bR] using hs
 obtain rfl:ns=[]:=by simpa [cU] using hns
 obtain rfl:ks=[]:=by simpa [bS] using hc
 exact .str s p hs'
theorem Ld {o n:Int} {s:ByteArray} {ns:List ByteArray} {ks:List Nd} {p:Int} (ih:∀ x∈ks,∀ a,(a=1∨a=2∨a=3)→rightN x a=true→Rt a x) (h:rightN (.mk 5 o n s ns ks p) 1=true):Rt 1 (.mk 5 o n s ns ks p):=by
 obtain⟨-,ho,hn,hs,hns,hc,hk⟩:=bY h;obtain rfl:o=0:=by simpa [cW] using ho
 obtain rfl:n=0:=by simpa [bU] using hn
 have hs':properB s=true:=by simpa [bR] using hs
 obtain rfl:ns=[]:=by simpa [cU] using hns
 obtain rfl:ks=[]:=by simpa [bS] using hc
 exact .name s p hs'
theorem Le {o n:Int} {s:ByteArray} {ns:List ByteArray} {ks:List Nd} {p:Int} (ih:∀ x∈ks,∀ a,(a=1∨a=2∨a=3)→rightN x a=true→Rt a x) (h:rightN (.mk 6 o n s ns ks p) 1=true):Rt 1 (.mk 6 o n s ns ks p):=by
 obtain⟨-,ho,hn,hs,hns,hc,hk⟩:=bY h;obtain rfl:o=0:=by simpa [cW] using ho
 obtain rfl:n=0:=by simpa [bU] using hn
 obtain rfl:s=bz:=eG (by simpa [bR] using hs);obtain rfl:ns=[]:=by simpa [cU] using hns
 obtain rfl:ks=[]:=by simpa [bS] using hc
 exact .this p
theorem Lf {o n:Int} {s:ByteArray} {ns:List ByteArray} {ks:List Nd} {p:Int} (ih:∀ x∈ks,∀ a,(a=1∨a=2∨a=3)→rightN x a=true→Rt a x) (h:rightN (.mk 7 o n s ns ks p) 1=true):Rt 1 (.mk 7 o n s ns ks p):=by
 obtain⟨-,ho,hn,hs,hns,hc,hk⟩:=bY h;obtain rfl:o=0:=by simpa [cW] using ho
 obtain rfl:n=0:=by simpa [bU] using hn
 obtain rfl:s=bz:=eG (by simpa [bR] using hs);have hns':ns.length≤40∧∀ s∈ns,dM s=true:=by simpa [cU] using hns
 have hc':ks.length=ns.length:=by simpa [bS] using hc
 exact .obj ns ks p hc' hns'.1 hns'.2 (fun x hx=>ih x hx 1 (by simp) (pC (by intro i;simp [bP]) hk x hx))
theorem Lg {o n:Int} {s:ByteArray} {ns:List ByteArray} {ks:List Nd} {p:Int} (ih:∀ x∈ks,∀ a,(a=1∨a=2∨a=3)→rightN x a=true→Rt a x) (h:rightN (.mk 8 o n s ns ks p) 1=true):Rt 1 (.mk 8 o n s ns ks p):=by
 obtain⟨-,ho,hn,hs,hns,hc,hk⟩:=bY h;obtain rfl:o=0:=by simpa [cW] using ho
 obtain rfl:n=0:=by simpa [bU] using hn
 obtain rfl:s=bz:=eG (by simpa [bR] using hs);have hns':ns.length≤6∧∀ s∈ns,properB s=true:=by simpa [cU] using hns
 have hc':ks.length≤40:=by simpa [bS] using hc
 exact .fn ns ks p hns'.1 hns'.2 hc' (fun x hx=>ih x hx 2 (by simp) (pC (by intro i;simp [bP]) hk x hx))
theorem Lh {o n:Int} {s:ByteArray} {ns:List ByteArray} {ks:List Nd} {p:Int} (ih:∀ x∈ks,∀ a,(a=1∨a=2∨a=3)→rightN x a=true→Rt a x) (h:rightN (.mk 9 o n s ns ks p) 1=true):Rt 1 (.mk 9 o n s ns ks p):=by
 obtain⟨-,ho,hn,hs,hns,hc,hk⟩:=bY h;have ho':o=1∨o=2:=by simp [cW] at ho;omega
 obtain rfl:n=0:=by simpa [bU] using hn
 obtain rfl:s=bz:=eG (by simpa [bR] using hs);obtain rfl:ns=[]:=by simpa [cU] using hns
 have hc':ks.length=1:=by simpa [bS] using hc
 obtain⟨x,rfl⟩:=List.length_eq_one_iff.1 hc';exact .un o x p ho' (ih x (by simp) 1 (by simp) (by simpa [bP] using hk 0 (by simp)))
theorem Gx {o n:Int} {s:ByteArray} {ns:List ByteArray} {ks:List Nd} {p:Int} (ih:∀ x∈ks,∀ a,(a=1∨a=2∨a=3)→rightN x a=true→Rt a x) (h:rightN (.mk 10 o n s ns ks p) 1=true):Rt 1 (.mk 10 o n s ns ks p):=by
 obtain⟨-,ho,hn,hs,hns,hc,hk⟩:=bY h;have ho':1≤o∧o≤11:=by simpa [cW] using ho
 obtain rfl:n=0:=by simpa [bU] using hn
 obtain rfl:s=bz:=eG (by simpa [bR] using hs);obtain rfl:ns=[]:=by simpa [cU] using hns
 have hc':ks.length=2:=by simpa [bS] using hc
 obtain⟨x,y,rfl⟩:=qE hc';exact .bin o x y p ho' (ih x (by simp) 1 (by simp) (by simpa [bP] using hk 0 (by simp))) (ih y (by simp) 1 (by simp) (by simpa [bP] using hk 1 (by simp)))
theorem Gy {o n:Int} {s:ByteArray} {ns:List ByteArray} {ks:List Nd} {p:Int} (ih:∀ x∈ks,∀ a,(a=1∨a=2∨a=3)→rightN x a=true→Rt a x) (h:rightN (.mk 11 o n s ns ks p) 1=true):Rt 1 (.mk 11 o n s ns ks p):=by
 obtain⟨-,ho,hn,hs,hns,hc,hk⟩:=bY h;obtain rfl:o=0:=by simpa [cW] using ho
 obtain rfl:n=0:=by simpa [bU] using hn
 obtain rfl:s=bz:=eG (by simpa [bR] using hs);obtain rfl:ns=[]:=by simpa [cU] using hns
 have hc':ks.length=2:=by simpa [bS] using hc
 obtain⟨x,y,rfl⟩:=qE hc';exact .and x y p (ih x (by simp) 1 (by simp) (by simpa [bP] using hk 0 (by simp))) (ih y (by simp) 1 (by simp) (by simpa [bP] using hk 1 (by simp)))
theorem Gz {o n:Int} {s:ByteArray} {ns:List ByteArray} {ks:List Nd} {p:Int} (ih:∀ x∈ks,∀ a,(a=1∨a=2∨a=3)→rightN x a=true→Rt a x) (h:rightN (.mk 12 o n s ns ks p) 1=true):Rt 1 (.mk 12 o n s ns ks p):=by
 obtain⟨-,ho,hn,hs,hns,hc,hk⟩:=bY h;obtain rfl:o=0:=by simpa [cW] using ho
 obtain rfl:n=0:=by simpa [bU] using hn
 obtain rfl:s=bz:=eG (by simpa [bR] using hs);obtain rfl:ns=[]:=by simpa [cU] using hns
 have hc':ks.length=2:=by simpa [bS] using hc
 obtain⟨x,y,rfl⟩:=qE hc';exact .or x y p (ih x (by simp) 1 (by simp) (by simpa [bP] using hk 0 (by simp))) (ih y (by simp) 1 (by simp) (by simpa [bP] using hk 1 (by simp)))
theorem GA {o n:Int} {s:ByteArray} {ns:List ByteArray} {ks:List Nd} {p:Int} (ih:∀ x∈ks,∀ a,(a=1∨a=2∨a=3)→rightN x a=true→Rt a x) (h:rightN (.mk 13 o n s ns ks p) 1=true):Rt 1 (.mk 13 o n s ns ks p):=by
 obtain⟨-,ho,hn,hs,hns,hc,hk⟩:=bY h;obtain rfl:o=0:=by simpa [cW] using ho
 obtain rfl:n=0:=by simpa [bU] using hn
 have hs':dM s=true:=by simpa [bR] using hs
 obtain rfl:ns=[]:=by simpa [cU] using hns
 have hc':ks.length=1:=by simpa [bS] using hc
 obtain⟨x,rfl⟩:=List.length_eq_one_iff.1 hc';exact .get s x p hs' (ih x (by simp) 1 (by simp) (by simpa [bP] using hk 0 (by simp)))
theorem GB {o n:Int} {s:ByteArray} {ns:List ByteArray} {ks:List Nd} {p:Int} (ih:∀ x∈ks,∀ a,(a=1∨a=2∨a=3)→rightN x a=true→Rt a x) (h:rightN (.mk 14 o n s ns ks p) 1=true):Rt 1 (.mk 14 o n s ns ks p):=by
 obtain⟨-,ho,hn,hs,hns,hc,hk⟩:=bY h;obtain rfl:o=0:=by simpa [cW] using ho
 obtain rfl:n=0:=by simpa [bU] using hn
 obtain rfl:s=bz:=eG (by simpa [bR] using hs);obtain rfl:ns=[]:=by simpa [cU] using hns
 have hc':ks.length=2:=by simpa [bS] using hc
 obtain⟨x,y,rfl⟩:=qE hc';exact .index x y p (ih x (by simp) 1 (by simp) (by simpa [bP] using hk 0 (by simp))) (ih y (by simp) 1 (by simp) (by simpa [bP] using hk 1 (by simp)))
theorem GC {o n:Int} {s:ByteArray} {ns:List ByteArray} {ks:List Nd} {p:Int} (ih:∀ x∈ks,∀ a,(a=1∨a=2∨a=3)→rightN x a=true→Rt a x) (h:rightN (.mk 15 o n s ns ks p) 1=true):Rt 1 (.mk 15 o n s ns ks p):=by
 obtain⟨-,ho,hn,hs,hns,hc,hk⟩:=bY h;obtain rfl:o=0:=by simpa [cW] using ho
 obtain rfl:n=0:=by simpa [bU] using hn
 obtain rfl:s=bz:=eG (by simpa [bR] using hs);obtain rfl:ns=[]:=by simpa [cU] using hns
 have hc':1≤ks.length∧ks.length≤7:=by simpa [bS] using hc
 cases ks with
 | nil=>simp at hc'
 | cons x ks=>
  have hr:=fun y hy=>ih y hy 1 (by simp) (pC (by intro i;simp [bP]) hk y hy)
  exact .call x ks p (by simp at hc';omega) (hr x (by simp)) (fun y hy=>hr y (by simp [hy]))
theorem GD {o n:Int} {s:ByteArray} {ns:List ByteArray} {ks:List Nd} {p:Int} (ih:∀ x∈ks,∀ a,(a=1∨a=2∨a=3)→rightN x a=true→Rt a x) (h:rightN (.mk 16 o n s ns ks p) 1=true):Rt 1 (.mk 16 o n s ns ks p):=by
 obtain⟨-,ho,hn,hs,hns,hc,hk⟩:=bY h;obtain rfl:o=0:=by simpa [cW] using ho
 obtain rfl:n=0:=by simpa [bU] using hn
 have hs':dM s=true:=by simpa [bR] using hs
 obtain rfl:ns=[]:=by simpa [cU] using hns
 have hc':1≤ks.length∧ks.length≤7:=by simpa [bS] using hc
 cases ks with
 | nil=>simp at hc'
 | cons x ks=>
  have hr:=fun y hy=>ih y hy 1 (by simp) (pC (by intro i;simp [bP]) hk y hy)
  exact .meth s x ks p hs' (by simp at hc';omega) (hr x (by simp)) (fun y hy=>hr y (by simp [hy]))
theorem GE {o n:Int} {s:ByteArray} {ns:List ByteArray} {ks:List Nd} {p:Int} (ih:∀ x∈ks,∀ a,(a=1∨a=2∨a=3)→rightN x a=true→Rt a x) (h:rightN (.mk 17 o n s ns ks p) 1=true):Rt 1 (.mk 17 o n s ns ks p):=by
 obtain⟨-,ho,hn,hs,hns,hc,hk⟩:=bY h;have ho':1≤o∧o≤7:=by simpa [cW] using ho
 obtain rfl:n=0:=by simpa [bU] using hn
 obtain rfl:s=bz:=eG (by simpa [bR] using hs);obtain rfl:ns=[]:=by simpa [cU] using hns
 have hc':ks.length=(builtT o).2:=by simpa [bS] using hc
 exact .built o ks p ho' hc' (fun x hx=>ih x hx 1 (by simp) (pC (by intro i;simp [bP]) hk x hx))
theorem GF {o n:Int} {s:ByteArray} {ns:List ByteArray} {ks:List Nd} {p:Int} (ih:∀ x∈ks,∀ a,(a=1∨a=2∨a=3)→rightN x a=true→Rt a x) (h:rightN (.mk 21 o n s ns ks p) 2=true):Rt 2 (.mk 21 o n s ns ks p):=by
 obtain⟨-,ho,hn,hs,hns,hc,hk⟩:=bY h;obtain rfl:o=0:=by simpa [cW] using ho
 obtain rfl:n=0:=by simpa [bU] using hn
 have hs':properB s=true:=by simpa [bR] using hs
 obtain rfl:ns=[]:=by simpa [cU] using hns
 have hc':ks.length=1:=by simpa [bS] using hc
 obtain⟨x,rfl⟩:=List.length_eq_one_iff.1 hc';exact .slet s x p hs' (ih x (by simp) 1 (by simp) (by simpa [bP] using hk 0 (by simp)))
theorem GG {o n:Int} {s:ByteArray} {ns:List ByteArray} {ks:List Nd} {p:Int} (ih:∀ x∈ks,∀ a,(a=1∨a=2∨a=3)→rightN x a=true→Rt a x) (h:rightN (.mk 22 o n s ns ks p) 2=true):Rt 2 (.mk 22 o n s ns ks p):=by
 obtain⟨-,ho,hn,hs,hns,hc,hk⟩:=bY h;obtain rfl:o=0:=by simpa [cW] using ho
 obtain rfl:n=0:=by simpa [bU] using hn
 have hs':properB s=true:=by simpa [bR] using hs
 obtain rfl:ns=[]:=by simpa [cU] using hns
 have hc':ks.length=1:=by simpa [bS] using hc
 obtain⟨x,rfl⟩:=List.length_eq_one_iff.1 hc';exact .assign s x p hs' (ih x (by simp) 1 (by simp) (by simpa [bP] using hk 0 (by simp)))
theorem GH {o n:Int} {s:ByteArray} {ns:List ByteArray} {ks:List Nd} {p:Int} (ih:∀ x∈ks,∀ a,(a=1∨a=2∨a=3)→rightN x a=true→Rt a x) (h:rightN (.mk 23 o n s ns ks p) 2=true):Rt 2 (.mk 23 o n s ns ks p):=by
 obtain⟨-,ho,hn,hs,hns,hc,hk⟩:=bY h;obtain rfl:o=0:=by simpa [cW] using ho
 obtain rfl:n=0:=by simpa [bU] using hn
 have hs':dM s=true:=by simpa [bR] using hs
 obtain rfl:ns=[]:=by simpa [cU] using hns
 have hc':ks.length=2:=by simpa [bS] using hc
 obtain⟨x,y,rfl⟩:=qE hc';exact .set s x y p hs' (ih x (by simp) 1 (by simp) (by simpa [bP] using hk 0 (by simp))) (ih y (by simp) 1 (by simp) (by simpa [bP] using hk 1 (by simp)))
theorem GI {o n:Int} {s:ByteArray} {ns:List ByteArray} {ks:List Nd} {p:Int} (ih:∀ x∈ks,∀ a,(a=1∨a=2∨a=3)→rightN x a=true→Rt a x) (h:rightN (.mk 24 o n s ns ks p) 2=true):Rt 2 (.mk 24 o n s ns ks p):=by
 obtain⟨-,ho,hn,hs,hns,hc,hk⟩:=bY h;obtain rfl:o=0:=by simpa [cW] using ho
 obtain rfl:n=0:=by simpa [bU] using hn
 obtain rfl:s=bz:=eG (by simpa [bR] using hs);obtain rfl:ns=[]:=by simpa [cU] using hns
 have hc':ks.length=3:=by simpa [bS] using hc
 obtain⟨x,y,z,rfl⟩:=CI hc';exact .setix x y z p (ih x (by simp) 1 (by simp) (by simpa [bP] using hk 0 (by simp))) (ih y (by simp) 1 (by simp) (by simpa [bP] using hk 1 (by simp))) (ih z (by simp) 1 (by simp) (by simpa [bP] using hk 2 (by simp)))
theorem GJ {o n:Int} {s:ByteArray} {ns:List ByteArray} {ks:List Nd} {p:Int} (ih:∀ x∈ks,∀ a,(a=1∨a=2∨a=3)→rightN x a=true→Rt a x) (h:rightN (.mk 25 o n s ns ks p) 2=true):Rt 2 (.mk 25 o n s ns ks p):=by
 obtain⟨-,ho,hn,hs,hns,hc,hk⟩:=bY h;obtain rfl:o=0:=by simpa [cW] using ho
 obtain rfl:n=0:=by simpa [bU] using hn
 have hs':dM s=true:=by simpa [bR] using hs
 obtain rfl:ns=[]:=by simpa [cU] using hns
 have hc':ks.length=1:=by simpa [bS] using hc
 obtain⟨x,rfl⟩:=List.length_eq_one_iff.1 hc';exact .del s x p hs' (ih x (by simp) 1 (by simp) (by simpa [bP] using hk 0 (by simp)))
theorem GK {o n:Int} {s:ByteArray} {ns:List ByteArray} {ks:List Nd} {p:Int} (ih:∀ x∈ks,∀ a,(a=1∨a=2∨a=3)→rightN x a=true→Rt a x) (h:rightN (.mk 26 o n s ns ks p) 2=true):Rt 2 (.mk 26 o n s ns ks p):=by
 obtain⟨-,ho,hn,hs,hns,hc,hk⟩:=bY h;obtain rfl:o=0:=by simpa [cW] using ho
 obtain rfl:n=0:=by simpa [bU] using hn
 obtain rfl:s=bz:=eG (by simpa [bR] using hs);obtain rfl:ns=[]:=by simpa [cU] using hns
 have hc':ks.length=2:=by simpa [bS] using hc
 obtain⟨x,y,rfl⟩:=qE hc';exact .delix x y p (ih x (by simp) 1 (by simp) (by simpa [bP] using hk 0 (by simp))) (ih y (by simp) 1 (by simp) (by simpa [bP] using hk 1 (by simp)))
theorem GL {o n:Int} {s:ByteArray} {ns:List ByteArray} {ks:List Nd} {p:Int} (ih:∀ x∈ks,∀ a,(a=1∨a=2∨a=3)→rightN x a=true→Rt a x) (h:rightN (.mk 27 o n s ns ks p) 2=true):Rt 2 (.mk 27 o n s ns ks p):=by
 obtain⟨-,ho,hn,hs,hns,hc,hk⟩:=bY h;obtain rfl:o=0:=by simpa [cW] using ho
 obtain rfl:n=0:=by simpa [bU] using hn
 obtain rfl:s=bz:=eG (by simpa [bR] using hs);obtain rfl:ns=[]:=by simpa [cU] using hns
 have hc':ks.length=1:=by simpa [bS] using hc
 obtain⟨x,rfl⟩:=List.length_eq_one_iff.1 hc';exact .print x p (ih x (by simp) 1 (by simp) (by simpa [bP] using hk 0 (by simp)))
theorem GM {o n:Int} {s:ByteArray} {ns:List ByteArray} {ks:List Nd} {p:Int} (ih:∀ x∈ks,∀ a,(a=1∨a=2∨a=3)→rightN x a=true→Rt a x) (h:rightN (.mk 28 o n s ns ks p) 2=true):Rt 2 (.mk 28 o n s ns ks p):=by
 obtain⟨-,ho,hn,hs,hns,hc,hk⟩:=bY h;obtain rfl:o=0:=by simpa [cW] using ho
 obtain rfl:n=0:=by simpa [bU] using hn
 obtain rfl:s=bz:=eG (by simpa [bR] using hs);obtain rfl:ns=[]:=by simpa [cU] using hns
 have hc':ks.length=3:=by simpa [bS] using hc
 obtain⟨x,y,z,rfl⟩:=CI hc';exact .iff x y z p (ih x (by simp) 1 (by simp) (by simpa [bP] using hk 0 (by simp))) (ih y (by simp) 3 (by simp) (by simpa [bP] using hk 1 (by simp))) (ih z (by simp) 3 (by simp) (by simpa [bP] using hk 2 (by simp)))
theorem GN {o n:Int} {s:ByteArray} {ns:List ByteArray} {ks:List Nd} {p:Int} (ih:∀ x∈ks,∀ a,(a=1∨a=2∨a=3)→rightN x a=true→Rt a x) (h:rightN (.mk 30 o n s ns ks p) 2=true):Rt 2 (.mk 30 o n s ns ks p):=by
 obtain⟨-,ho,hn,hs,hns,hc,hk⟩:=bY h;obtain rfl:o=0:=by simpa [cW] using ho
 obtain rfl:n=0:=by simpa [bU] using hn
 obtain rfl:s=bz:=eG (by simpa [bR] using hs);obtain rfl:ns=[]:=by simpa [cU] using hns
 have hc':ks.length=2:=by simpa [bS] using hc
 obtain⟨x,y,rfl⟩:=qE hc';exact .whil x y p (ih x (by simp) 1 (by simp) (by simpa [bP] using hk 0 (by simp))) (ih y (by simp) 3 (by simp) (by simpa [bP] using hk 1 (by simp)))
theorem GO {o n:Int} {s:ByteArray} {ns:List ByteArray} {ks:List Nd} {p:Int} (ih:∀ x∈ks,∀ a,(a=1∨a=2∨a=3)→rightN x a=true→Rt a x) (h:rightN (.mk 31 o n s ns ks p) 2=true):Rt 2 (.mk 31 o n s ns ks p):=by
 obtain⟨-,ho,hn,hs,hns,hc,hk⟩:=bY h;obtain rfl:o=0:=by simpa [cW] using ho
 obtain rfl:n=0:=by simpa [bU] using hn
 obtain rfl:s=bz:=eG (by simpa [bR] using hs);obtain rfl:ns=[]:=by simpa [cU] using hns
 have hc':ks.length=1:=by simpa [bS] using hc
 obtain⟨x,rfl⟩:=List.length_eq_one_iff.1 hc';exact .ret x p (ih x (by simp) 1 (by simp) (by simpa [bP] using hk 0 (by simp)))
theorem GP {o n:Int} {s:ByteArray} {ns:List ByteArray} {ks:List Nd} {p:Int} (ih:∀ x∈ks,∀ a,(a=1∨a=2∨a=3)→rightN x a=true→Rt a x) (h:rightN (.mk 32 o n s ns ks p) 2=true):Rt 2 (.mk 32 o n s ns ks p):=by
 obtain⟨-,ho,hn,hs,hns,hc,hk⟩:=bY h;obtain rfl:o=0:=by simpa [cW] using ho
 obtain rfl:n=0:=by simpa [bU] using hn
 obtain rfl:s=bz:=eG (by simpa [bR] using hs);obtain rfl:ns=[]:=by simpa [cU] using hns
 have hc':ks.length=1:=by simpa [bS] using hc
 obtain⟨x,rfl⟩:=List.length_eq_one_iff.1 hc';exact .sexpr x p (ih x (by simp) 1 (by simp) (by simpa [bP] using hk 0 (by simp)))
theorem GQ {o n:Int} {s:ByteArray} {ns:List ByteArray} {ks:List Nd} {p:Int} (ih:∀ x∈ks,∀ a,(a=1∨a=2∨a=3)→rightN x a=true→Rt a x) (h:rightN (.mk 29 o n s ns ks p) 3=true):Rt 3 (.mk 29 o n s ns ks p):=by
 obtain⟨-,ho,hn,hs,hns,hc,hk⟩:=bY h;obtain rfl:o=0:=by simpa [cW] using ho
 obtain rfl:n=0:=by simpa [bU] using hn
 obtain rfl:s=bz:=eG (by simpa [bR] using hs);obtain rfl:ns=[]:=by simpa [cU] using hns
 have hc':ks.length≤40:=by simpa [bS] using hc
 exact .block ks p hc' (fun x hx=>ih x hx 2 (by simp) (pC (by intro i;simp [bP]) hk x hx))
theorem EL (t:Nd):∀ a,(a=1∨a=2∨a=3)→rightN t a=true→Rt a t:=by
 refine Nd.ind (P:=fun t=>∀ a,(a=1∨a=2∨a=3)→rightN t a=true→Rt a t) ?_ t;intro k o n s ns ks p ih a ha h;have hk:=(bY h).1;rcases Nb hk ha with ⟨rfl,h1⟩ | ⟨rfl,h2⟩ | ⟨rfl,rfl⟩
 ·rcases h1 with rfl | rfl | rfl | rfl | rfl | rfl | rfl | rfl | rfl | rfl | rfl | rfl | rfl | rfl | rfl | rfl | rfl
  ·exact KZ ih h
  ·exact La ih h
  ·exact Lb ih h
  ·exact Lc ih h
  ·exact Ld ih h
  ·exact Le ih h
  ·exact Lf ih h
  ·exact Lg ih h
  ·exact Lh ih h
  ·exact Gx ih h
  ·exact Gy ih h
  ·exact Gz ih h
  ·exact GA ih h
  ·exact GB ih h
  ·exact GC ih h
  ·exact GD ih h
  ·exact GE ih h
 ·rcases h2 with rfl | rfl | rfl | rfl | rfl | rfl | rfl | rfl | rfl | rfl | rfl
  ·exact GF ih h
  ·exact GG ih h
  ·exact GH ih h
  ·exact GI ih h
  ·exact GJ ih h
  ·exact GK ih h
  ·exact GL ih h
  ·exact GM ih h
  ·exact GN ih h
  ·exact GO ih h
  ·exact GP ih h
 ·exact GQ ih h
theorem CJ {k:Int} : ∀ (ks:List Nd) (i:Nat),(∀ (j:Nat) (h:j<ks.length),rightN ks[j] (bP k (i+j))=true)→cP ks k i=true
 | [],i,_=>by rw [cP]
 | x::r,i,h=>by
  rw [cP,Bool.and_eq_true];refine⟨h 0 (by simp),CJ r (i+1) fun j hj=>?_⟩;have:=h (j+1) (by simpa using hj);rw [show i+(j+1)=i+1+j by omega] at this;simpa using this
theorem mG {k:Int} {a:Nat} (hw:∀ i,bP k i=a) {ks:List Nd} (h:∀ x∈ks,rightN x a=true):cP ks k 0=true:=
 CJ ks 0 fun j hj=>by rw [hw];exact h _ (List.getElem_mem hj)
set_option linter.unusedSimpArgs false in
theorem Nc {a:Nat} {t:Nd} (h:Rt a t):rightN t a=true:=by
 have b0:bz.size=0:=rfl;induction h with
 | null p=>rw [aP];simp [kG,kP,cW,bU,bR,cU,bS,bP,b0,cP]
 | bool n p hn=>rw [aP];simp [kG,kP,cW,bU,bR,cU,bS,bP,b0,cP,hn]
 | int n p hn=>rw [aP];simp [kG,kP,cW,bU,bR,cU,bS,bP,b0,cP,hn]
 | str s p hs=>rw [aP];simp [kG,kP,cW,bU,bR,cU,bS,bP,b0,cP,hs]
 | name s p hs=>rw [aP];simp [kG,kP,cW,bU,bR,cU,bS,bP,b0,cP,hs]
 | this p=>rw [aP];simp [kG,kP,cW,bU,bR,cU,bS,bP,b0,cP]
 | obj ns ks p hl hm hns hk ik=>rw [aP,mG (a:=1) (by intro i;simp [bP]) ik];simp [kG,kP,cW,bU,bR,cU,bS,bP,b0,hl,hm];exact hns
 | fn ns ks p hm hns hc hk ik=>rw [aP,mG (a:=2) (by intro i;simp [bP]) ik];simp [kG,kP,cW,bU,bR,cU,bS,bP,b0,hc,hm];exact hns
 | un o x p ho hx ix=>rw [aP];simp [kG,kP,cW,bU,bR,cU,bS,bP,b0,cP,ho,ix];omega
 | bin o x y p ho hx hy ix iy=>rw [aP];simp [kG,kP,cW,bU,bR,cU,bS,bP,b0,cP,ho,ix,iy]
 | and x y p hx hy ix iy=>rw [aP];simp [kG,kP,cW,bU,bR,cU,bS,bP,b0,cP,ix,iy]
 | or x y p hx hy ix iy=>rw [aP];simp [kG,kP,cW,bU,bR,cU,bS,bP,b0,cP,ix,iy]
 | get s x p hs hx ix=>rw [aP];simp [kG,kP,cW,bU,bR,cU,bS,bP,b0,cP,hs,ix]
 | index x y p hx hy ix iy=>rw [aP];simp [kG,kP,cW,bU,bR,cU,bS,bP,b0,cP,ix,iy]
 | call x ks p hc hx hk ix ik=>rw [aP,mG (a:=1) (by intro i;simp [bP]) (fun y hy=>(List.mem_cons.1 hy).elim (fun e=>e▸ix) (ik y))];simp [kG,kP,cW,bU,bR,cU,bS,bP,b0];omega
 | meth s x ks p hs hc hx hk ix ik=>rw [aP,mG (a:=1) (by intro i;simp [bP]) (fun y hy=>(List.mem_cons.1 hy).elim (fun e=>e▸ix) (ik y))];simp [kG,kP,cW,bU,bR,cU,bS,bP,b0,hs];omega
 | built o ks p ho hc hk ik=>rw [aP,mG (a:=1) (by intro i;simp [bP]) ik];simp [kG,kP,cW,bU,bR,cU,bS,bP,b0,ho,hc]
 | slet s x p hs hx ix=>rw [aP];simp [kG,kP,cW,bU,bR,cU,bS,bP,b0,cP,hs,ix]
 | assign s x p hs hx ix=>rw [aP];simp [kG,kP,cW,bU,bR,cU,bS,bP,b0,cP,hs,ix]
 | set s x y p hs hx hy ix iy=>rw [aP];simp [kG,kP,cW,bU,bR,cU,bS,bP,b0,cP,hs,ix,iy]
 | setix x y z p hx hy hz ix iy iz=>rw [aP];simp [kG,kP,cW,bU,bR,cU,bS,bP,b0,cP,ix,iy,iz]
 | del s x p hs hx ix=>rw [aP];simp [kG,kP,cW,bU,bR,cU,bS,bP,b0,cP,hs,ix]
 | delix x y p hx hy ix iy=>rw [aP];simp [kG,kP,cW,bU,bR,cU,bS,bP,b0,cP,ix,iy]
 | print x p hx ix=>rw [aP];simp [kG,kP,cW,bU,bR,cU,bS,bP,b0,cP,ix]
 | iff x y z p hx hy hz ix iy iz=>rw [aP];simp [kG,kP,cW,bU,bR,cU,bS,bP,b0,cP,ix,iy,iz]
 | whil x y p hx hy ix iy=>rw [aP];simp [kG,kP,cW,bU,bR,cU,bS,bP,b0,cP,ix,iy]
 | ret x p hx ix=>rw [aP];simp [kG,kP,cW,bU,bR,cU,bS,bP,b0,cP,ix]
 | sexpr x p hx ix=>rw [aP];simp [kG,kP,cW,bU,bR,cU,bS,bP,b0,cP,ix]
 | block ks p hc hk ik=>rw [aP,mG (a:=2) (by intro i;simp [bP]) ik];simp [kG,kP,cW,bU,bR,cU,bS,bP,b0,hc]
def dF (k:Int):Bool:=k==9||k==10||k==17
def cH (k:Int):Bool:=k==2||k==3
def cK (k:Int):Bool:=k==4||k==5||k==13||k==16||k==21||k==22||k==23||k==25
def cV (k:Int):Bool:=k==7||k==8
def eV (k:Int):Bool:=k==1||k==6||k==2||k==3||k==4||k==5
theorem nJ {fn:Func} {t:Tmp} (h:fn.results=#[.cell t 26]) {tmps:Array Value} {g:Nat} {w:World} {x0 x1 x2 x3 x4 x5 x6:Value} (ht:tmps.getD t undef=.pointer (some ⟨g,0,none⟩))
  (c:w.cell? ⟨g,0,none⟩=some x0∧w.cell? ⟨g,1,none⟩=some x1∧w.cell? ⟨g,2,none⟩=some x2∧w.cell? ⟨g,3,none⟩=some x3∧w.cell? ⟨g,4,none⟩=some x4∧w.cell? ⟨g,5,none⟩=some x5∧w.cell? ⟨g,6,none⟩=some x6) :
  (results fn tmps).run Tryz.prog w=.ok (.agg #[x0,x1,x2,x3,x4,x5,x6]) w:=by
 rw [Array.getD_eq_getD_getElem?] at ht;simp [results,h,ht,go_sem,asAddr,c.1,c.2.1,c.2.2.1,c.2.2.2.1,c.2.2.2.2.1,c.2.2.2.2.2.1,c.2.2.2.2.2.2]
theorem dP (w:World) (x y z:Obj):Below w.heap.size w (((w.alloc x).alloc y).alloc z):=(((Below.refl _ _).alloc (Nat.le_refl _) _).alloc (by simp) _).alloc (by simp;omega) _
theorem dQ (w:World) (x z:Obj) (y0 y1 y2 y3 y4 y5 y6:Value) :
  (((w.alloc x).alloc (.cells #[y0,y1,y2,y3,y4,y5,y6] 26)).alloc z).cell? ⟨w.heap.size+1,0,none⟩=some y0∧(((w.alloc x).alloc (.cells #[y0,y1,y2,y3,y4,y5,y6] 26)).alloc z).cell? ⟨w.heap.size+1,1,none⟩=some y1∧
  (((w.alloc x).alloc (.cells #[y0,y1,y2,y3,y4,y5,y6] 26)).alloc z).cell? ⟨w.heap.size+1,2,none⟩=some y2∧(((w.alloc x).alloc (.cells #[y0,y1,y2,y3,y4,y5,y6] 26)).alloc z).cell? ⟨w.heap.size+1,3,none⟩=some y3∧
  (((w.alloc x).alloc (.cells #[y0,y1,y2,y3,y4,y5,y6] 26)).alloc z).cell? ⟨w.heap.size+1,4,none⟩=some y4∧(((w.alloc x).alloc (.cells #[y0,y1,y2,y3,y4,y5,y6] 26)).alloc z).cell? ⟨w.heap.size+1,5,none⟩=some y5∧
  (((w.alloc x).alloc (.cells #[y0,y1,y2,y3,y4,y5,y6] 26)).alloc z).cell? ⟨w.heap.size+1,6,none⟩=some y6:=by
 refine⟨?_,?_,?_,?_,?_,?_,?_⟩<;>simp [World.cell?_alloc_past]
theorem Ji (w:World) (k o n:Int) (s:ByteArray) (a1:Option Addr) (c1 q1:Nat) (a2:Option Addr) (c2 q2:Nat) (p:Int) :
  Calls Tryz.prog 60 #[.agg #[.int .i64 k,.int .i64 o,.int .i64 n,.string s,.slice a1 c1 q1,.slice a2 c2 q2,.int .i64 p]] w fun e w'=>
   e=.returned (.agg #[.int .i64 k,.int .i64 (cond (dF k) o 0),.int .i64 (cond (cH k) n 0),.string (cond (cK k) s ⟨#[]⟩),cond (cV k) (.slice a1 c1 q1) (.slice none 0 0),cond (eV k) (.slice none 0 0) (.slice a2 c2 q2),.int .i64 0])∧Below w.heap.size w w':=by
 cases h1:(k==1) with
 | true=>
  obtain rfl:=beq_iff_eq.1 h1;clear h1;go_enter Tryz.func60,Tryz.ntmps60;go_wp2_with fail;exact bodyPost_ret (nJ (g:=w.heap.size+1) rfl rfl (dQ w _ _ _ _ _ _ _ _ _)) rfl ⟨rfl,dP w _ _ _⟩
 | false=>
 cases h6:(k==6) with
 | true=>
  obtain rfl:=beq_iff_eq.1 h6;clear h6;go_enter Tryz.func60,Tryz.ntmps60;go_wp2_with fail;exact bodyPost_ret (nJ (g:=w.heap.size+1) rfl rfl (dQ w _ _ _ _ _ _ _ _ _)) rfl ⟨rfl,dP w _ _ _⟩
 | false=>
 cases h2:(k==2) with
 | true=>
  obtain rfl:=beq_iff_eq.1 h2;clear h2;go_enter Tryz.func60,Tryz.ntmps60;go_wp2_with fail;exact bodyPost_ret (nJ (g:=w.heap.size+1) rfl rfl (dQ w _ _ _ _ _ _ _ _ _)) rfl ⟨rfl,dP w _ _ _⟩
 | false=>
 cases h3:(k==3) with
 | true=>
  obtain rfl:=beq_iff_eq.1 h3;clear h3;go_enter Tryz.func60,Tryz.ntmps60;go_wp2_with fail;exact bodyPost_ret (nJ (g:=w.heap.size+1) rfl rfl (dQ w _ _ _ _ _ _ _ _ _)) rfl ⟨rfl,dP w _ _ _⟩
 | false=>
 cases h4:(k==4) with
 | true=>
  obtain rfl:=beq_iff_eq.1 h4;clear h4;go_enter Tryz.func60,Tryz.ntmps60;go_wp2_with fail;exact bodyPost_ret (nJ (g:=w.heap.size+1) rfl rfl (dQ w _ _ _ _ _ _ _ _ _)) rfl ⟨rfl,dP w _ _ _⟩
 | false=>
 cases h5:(k==5) with
 | true=>
  obtain rfl:=beq_iff_eq.1 h5;clear h5;go_enter Tryz.func60,Tryz.ntmps60;go_wp2_with fail;exact bodyPost_ret (nJ (g:=w.heap.size+1) rfl rfl (dQ w _ _ _ _ _ _ _ _ _)) rfl ⟨rfl,dP w _ _ _⟩
 | false=>
 cases h13:(k==13) with
 | true=>
  obtain rfl:=beq_iff_eq.1 h13;clear h13;go_enter Tryz.func60,Tryz.ntmps60;go_wp2_with fail;exact bodyPost_ret (nJ (g:=w.heap.size+1) rfl rfl (dQ w _ _ _ _ _ _ _ _ _)) rfl ⟨rfl,dP w _ _ _⟩
 | false=>
 cases h16:(k==16) with
 | true=>
  obtain rfl:=beq_iff_eq.1 h16;clear h16;go_enter Tryz.func60,Tryz.ntmps60;go_wp2_with fail;exact bodyPost_ret (nJ (g:=w.heap.size+1) rfl rfl (dQ w _ _ _ _ _ _ _ _ _)) rfl ⟨rfl,dP w _ _ _⟩
 | false=>
 cases h21:(k==21) with
 | true=>
  obtain rfl:=beq_iff_eq.1 h21;clear h21;go_enter Tryz.func60,Tryz.ntmps60;go_wp2_with fail;exact bodyPost_ret (nJ (g:=w.heap.size+1) rfl rfl (dQ w _ _ _ _ _ _ _ _ _)) rfl ⟨rfl,dP w _ _ _⟩
 | false=>
 cases h22:(k==22) with
 | true=>
  obtain rfl:=beq_iff_eq.1 h22;clear h22;go_enter Tryz.func60,Tryz.ntmps60;go_wp2_with fail;exact bodyPost_ret (nJ (g:=w.heap.size+1) rfl rfl (dQ w _ _ _ _ _ _ _ _ _)) rfl ⟨rfl,dP w _ _ _⟩
 | false=>
 cases h23:(k==23) with
 | true=>
  obtain rfl:=beq_iff_eq.1 h23;clear h23;go_enter Tryz.func60,Tryz.ntmps60;go_wp2_with fail;exact bodyPost_ret (nJ (g:=w.heap.size+1) rfl rfl (dQ w _ _ _ _ _ _ _ _ _)) rfl ⟨rfl,dP w _ _ _⟩
 | false=>
 cases h25:(k==25) with
 | true=>
  obtain rfl:=beq_iff_eq.1 h25;clear h25;go_enter Tryz.func60,Tryz.ntmps60;go_wp2_with fail;exact bodyPost_ret (nJ (g:=w.heap.size+1) rfl rfl (dQ w _ _ _ _ _ _ _ _ _)) rfl ⟨rfl,dP w _ _ _⟩
 | false=>
 cases h7:(k==7) with
 | true=>
  obtain rfl:=beq_iff_eq.1 h7;clear h7;go_enter Tryz.func60,Tryz.ntmps60;go_wp2_with fail;exact bodyPost_ret (nJ (g:=w.heap.size+1) rfl rfl (dQ w _ _ _ _ _ _ _ _ _)) rfl ⟨rfl,dP w _ _ _⟩
 | false=>
 cases h8:(k==8) with
 | true=>
  obtain rfl:=beq_iff_eq.1 h8;clear h8;go_enter Tryz.func60,Tryz.ntmps60;go_wp2_with fail;exact bodyPost_ret (nJ (g:=w.heap.size+1) rfl rfl (dQ w _ _ _ _ _ _ _ _ _)) rfl ⟨rfl,dP w _ _ _⟩
 | false=>
 cases h9:(k==9) with
 | true=>
  obtain rfl:=beq_iff_eq.1 h9;clear h9;go_enter Tryz.func60,Tryz.ntmps60;go_wp2_with fail;exact bodyPost_ret (nJ (g:=w.heap.size+1) rfl rfl (dQ w _ _ _ _ _ _ _ _ _)) rfl ⟨rfl,dP w _ _ _⟩
 | false=>
 cases h10:(k==10) with
 | true=>
  obtain rfl:=beq_iff_eq.1 h10;clear h10;go_enter Tryz.func60,Tryz.ntmps60;go_wp2_with fail;exact bodyPost_ret (nJ (g:=w.heap.size+1) rfl rfl (dQ w _ _ _ _ _ _ _ _ _)) rfl ⟨rfl,dP w _ _ _⟩
 | false=>
 cases h17:(k==17) with
 | true=>
  obtain rfl:=beq_iff_eq.1 h17;clear h17;go_enter Tryz.func60,Tryz.ntmps60;go_wp2_with fail;exact bodyPost_ret (nJ (g:=w.heap.size+1) rfl rfl (dQ w _ _ _ _ _ _ _ _ _)) rfl ⟨rfl,dP w _ _ _⟩
 | false=>
 have H:=aA (show dF k=false∧cH k=false∧cK k=false∧cV k=false∧eV k=false by simp only [dF,cH,cK,cV,eV,h1,h6,h2,h3,h4,h5,h13,h16,h21,h22,h23,h25,h7,h8,h9,h10,h17,Bool.or_self];trivial);rw [H.out.1,H.out.2.1,H.out.2.2.1,H.out.2.2.2.1,H.out.2.2.2.2];go_enter Tryz.func60,Tryz.ntmps60;go_wp2_with fail;exact bodyPost_ret (nJ (g:=w.heap.size+1) rfl rfl (dQ w _ _ _ _ _ _ _ _ _)) rfl ⟨rfl,dP w _ _ _⟩
theorem qN (s t:ByteArray):(s.toList==t.toList)=(s.data.toList==t.data.toList):=by rw [Lib.toList_data,Lib.toList_data]
theorem Gb (B:Nat) (w:World) (v v':Value) (l l':List ByteArray) (hB:B≤w.heap.size) (h1:Hid (cE B v l w)) (h2:Hid (cE B v' l' w)) (hc:l.length≤1000000) :
  Calls Tryz.prog 57 #[v,v'] w fun e w'=>e=.returned (.bool (namesB l l'))∧Below w.heap.size w w':=by
 obtain⟨ao,cap,rfl,hss⟩:=eR h1.out;obtain⟨ao',cap',rfl,hss'⟩:=eR h2.out;have S1:=aA hss;have S2:=aA hss';clear hss hss' h1 h2;by_cases hl:l.length=l'.length
 ·have e0:((l.length:Int) != (l'.length:Int))=false:=by rw [hl];simp
  go_enter Tryz.func57,Tryz.ntmps57;go_wp2_with fail;go_loopw [13] (fun i wr=>∃ j:Nat,j≤l.length∧i=.int .i64 j∧(∀ (q:Nat) (hq:q<l.length) (hq':q<l'.length),q<j→l[q].data.toList=l'[q].data.toList)∧Below w.heap.size w wr) (fun i _=>l.length - (intOf i).toNat)
  case atStart=>exact⟨0,Nat.zero_le _,rfl,fun q _ _ h=>absurd h (Nat.not_lt_zero _),Below.refl _ _⟩
  case round=>
   obtain⟨j,hj,rfl,hq,hb⟩:=hrel;have BB:=aA hb;by_cases hjl:j<l.length
   ·have hjl':j<l'.length:=by omega
    obtain⟨b,off,rfl,hbB,hat⟩:=S1.out.resolve_left (fun h=>by rw [h] at hjl;cases hjl);obtain⟨b',off',rfl,hbB',hat'⟩:=S2.out.resolve_left (fun h=>by rw [h] at hjl';cases hjl');have c0:=bF (hb.mono hB) hbB (hat j hjl);have c1:=bF (hb.mono hB) hbB' (hat' j hjl');have HN:=aA (fun hn=>CG (l:=l) (m:=l') hjl hjl' hn);have HQ:=aA (fun (he:l[j].data.toList=l'[j].data.toList)=>show ∀ (q:Nat) (hq:q<l.length) (hq':q<l'.length),q<j+1→l[q].data.toList=l'[q].data.toList from fun q h1 h2 h3=>by
     rcases Nat.lt_or_ge q j with h4 | h4
     ·exact hq q h1 h2 h4
     ·obtain rfl:q=j:=by omega
      exact he)
    clear hq hat hat' hb S1 S2;generalize l[j]=x at *
    generalize l'[j]=y at *
    cases hxy:(x.toList==y.toList) with
    | true=>
     have hne:(x.toList != y.toList)=false:=by simp [bne,hxy]
     have H:=aA (HQ.out (by rw [qN] at hxy;exact beq_iff_eq.1 hxy));clear HQ HN;go_wp2_with fail;go_region;all_goals
      go_wp2_with fail;go_roundw
      case rel=>exact⟨j+1,by omega,by go_num,H.out,BB.out.drew⟩
      case measure=>simp [intOf];omega
    | false=>
     have hne:(x.toList != y.toList)=true:=by simp [bne,hxy]
     have H:=aA (HN.out (by rw [qN] at hxy;exact beq_eq_false_iff_ne.1 hxy));clear HQ HN;go_wp2_with fail;go_region;all_goals
      go_wp2_with fail;go_ret;exact⟨by rw [H.out];rfl,BB.out.drew⟩
   ·have H:=aA (CF hl (fun q h1 h2=>hq q h1 h2 (by omega)));clear hq hb;go_wp2_with fail;go_ret;exact⟨by rw [H.out];rfl,BB.out⟩
 ·have H:=aA (zE hl);have e0:((l.length:Int) != (l'.length:Int))=true:=by rw [bne_iff_ne];omega
  clear hl;go_enter Tryz.func57,Tryz.ntmps57;go_wp2_with fail;go_ret;exact⟨by rw [H.out];rfl,Below.refl _ _⟩
theorem Gc (B:Nat) (w:World) (k o n:Int) (s:ByteArray) (ns:List ByteArray) (nv:Value) (a:Option Addr) (c q:Nat) (p k' o' n':Int) (s':ByteArray) (ns':List ByteArray) (nv':Value) (a':Option Addr) (c' q':Nat) (p':Int)
  (hB:B≤w.heap.size) (h1:Hid (cE B nv ns w)) (h2:Hid (cE B nv' ns' w)) (hc:ns.length≤1000000) :
  Calls Tryz.prog 31 #[.agg #[.int .i64 k,.int .i64 o,.int .i64 n,.string s,nv,.slice a c q,.int .i64 p],.agg #[.int .i64 k',.int .i64 o',.int .i64 n',.string s',nv',.slice a' c' q',.int .i64 p']] w fun e w'=>
   e=.returned (.bool (iK k o n s ns c k' o' n' s' ns' c'))∧Below w.heap.size w w':=by
 obtain⟨ao,cap,rfl,_⟩:=eR h1.out;obtain⟨ao',cap',rfl,_⟩:=eR h2.out;have hal:=pH w (.cells #[.int .i64 k,.int .i64 o,.int .i64 n,.string s,.slice ao ns.length cap,.slice a c q,.int .i64 p] 26) (.cells #[.int .i64 k',.int .i64 o',.int .i64 n',.string s',.slice ao' ns'.length cap',.slice a' c' q',.int .i64 p'] 26);have AL:=aA hal;have T1:=aA (fC h1.out (hal.mono hB));have T2:=aA (fC h2.out (hal.mono hB));clear hal h1 h2;cases ek:(k==k') with
 | false=>
  have H:=aA (show iK k o n s ns c k' o' n' s' ns' c'=false by unfold iK;rw [ek];simp);go_enter Tryz.func31,Tryz.ntmps31;go_wp2_with fail;go_ret;exact⟨by rw [H.out];rfl,AL.out⟩
 | true=>
 cases eo:(o==o') with
 | false=>
  have H:=aA (show iK k o n s ns c k' o' n' s' ns' c'=false by unfold iK;rw [eo];simp);go_enter Tryz.func31,Tryz.ntmps31;go_wp2_with fail;go_ret;exact⟨by rw [H.out];rfl,AL.out⟩
 | true=>
 cases en:(n==n') with
 | false=>
  have H:=aA (show iK k o n s ns c k' o' n' s' ns' c'=false by unfold iK;rw [en];simp);go_enter Tryz.func31,Tryz.ntmps31;go_wp2_with fail;go_ret;exact⟨by rw [H.out];rfl,AL.out⟩
 | true=>
 cases es:(s.toList==s'.toList) with
 | false=>
  have es':=es;rw [qN] at es';have H:=aA (show iK k o n s ns c k' o' n' s' ns' c'=false by unfold iK;rw [es'];simp);clear es';go_enter Tryz.func31,Tryz.ntmps31;go_wp2_with fail;go_ret;exact⟨by rw [H.out];rfl,AL.out⟩
 | true=>
  have es':=es;rw [qN] at es';have H:=aA (show iK k o n s ns c k' o' n' s' ns' c'=(namesB ns ns'&&((c:Int)==(c':Int))) by
   unfold iK;rw [ek,eo,en,es',Bool.true_and,Bool.true_and,Bool.true_and,Bool.true_and];congr 1;rw [Bool.eq_iff_iff,beq_iff_eq,beq_iff_eq];omega)
  clear es';go_enter Tryz.func31,Tryz.ntmps31;go_wp2_with fail;refine (Gb B _ _ _ ns ns' (by simp;omega) T1 T2 hc).mono ?_;rintro e w1 ⟨rfl,b1⟩;have B1:=aA (aG AL.out (by simp) b1);have hw:=b1.size;obtain⟨g0,g1⟩:w1.cell? ⟨w.heap.size,5,none⟩=some (.slice a c q)∧w1.cell? ⟨w.heap.size+1,5,none⟩=some (.slice a' c' q'):=by
   refine⟨bF b1 (by simp;omega) ?_,bF b1 (by simp) ?_⟩
   ·simp [World.cell?_alloc_past]
   ·simp
  clear b1 AL T1 T2 hw;generalize namesB ns ns'=nb at *
  cases nb
  ·go_wp2_with fail;go_ret;exact⟨by rw [H.out];rfl,B1.out⟩
  ·go_wp2_with fail;go_ret;exact⟨by rw [H.out];rfl,B1.out⟩
end Go.Proofs.YtdnnmjhfidimcaaGreatDoor
