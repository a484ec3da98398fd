/- Nodes in memory. Which nodes are right, as a plain function. Whether a tree has few nodes, not too high, with short texts. -/
import Derived.Test.YtdnnmjhfidimcaaGreatDoorProg
import Derived.Test.YtdnnmjhfidimcaaGreatDoorJoint1
import Derived.Test.YtdnnmjhfidimcaaGreatDoorJoint2
import Derived.Lib.Strings
import Derived.Lib.Builder
namespace Go.Proofs.YtdnnmjhfidimcaaGreatDoor
open Go.RowKit
def Gu (b off:Nat) (l:List ByteArray) (w:World):Prop:=∀ (i:Nat) (h:i<l.length),w.cell? ⟨b,off+i,none⟩=some (.string l[i])
def cE (B:Nat) (v:Value) (l:List ByteArray) (w:World):Prop:=
 (∃ ao cap,v=.slice ao 0 cap∧l=[])∨∃ b off cap,v=.slice (some ⟨b,off,none⟩) l.length cap∧b<B∧Gu b off l w∧l.length≤cap
def bN (b o:Nat) (k op n:Int) (s:ByteArray) (nv kv:Value) (p:Int) (w:World):Prop:=
 w.cell? ⟨b,o,none⟩=some (.int .i64 k)∧w.cell? ⟨b,o+1,none⟩=some (.int .i64 op)∧w.cell? ⟨b,o+2,none⟩=some (.int .i64 n)∧w.cell? ⟨b,o+3,none⟩=some (.string s)∧
  w.cell? ⟨b,o+4,none⟩=some nv∧w.cell? ⟨b,o+5,none⟩=some kv∧w.cell? ⟨b,o+6,none⟩=some (.int .i64 p)
mutual
def jS (B:Nat) (w:World):Nd→Value→Value→Prop
 | .mk _ _ _ _ ns ks _,nv,kv=>cE B nv ns w∧((∃ ao cap,kv=.slice ao 0 cap∧ks=[])∨∃ b off cap,kv=.slice (some ⟨b,off,none⟩) ks.length cap∧b<B∧jN B w b ks off∧ks.length≤cap)
def jN (B:Nat) (w:World) (b:Nat):List Nd→Nat→Prop
 | [],_=>True
 | .mk k op n s ns ks p::r,off=>(∃ nv kv,bN b off k op n s nv kv p w∧jS B w (.mk k op n s ns ks p) nv kv)∧jN B w b r (off+7)
end
def dI (B:Nat) (w:World) (kv:Value) (ks:List Nd):Prop:=
 (∃ ao cap,kv=.slice ao 0 cap∧ks=[])∨∃ b off cap,kv=.slice (some ⟨b,off,none⟩) ks.length cap∧b<B∧jN B w b ks off∧ks.length≤cap
theorem ndIn_mk {B:Nat} {w:World} {k o n:Int} {s:ByteArray} {ns:List ByteArray} {ks:List Nd} {p:Int} {nv kv:Value} : jS B w (.mk k o n s ns ks p) nv kv↔cE B nv ns w∧dI B w kv ks:=by
 rw [jS];rfl
theorem bF {B:Nat} {a c:World} (k:Below B a c) {g i:Nat} {v:Value} (hg:g<B) (hc:a.cell? ⟨g,i,none⟩=some v):c.cell? ⟨g,i,none⟩=some v:=
 (k.cell (p:=⟨g,i,none⟩) hg).trans hc
theorem fC {B:Nat} {v:Value} {l:List ByteArray} {a c:World} (h:cE B v l a) (k:Below B a c):cE B v l c:=by
 rcases h with h | ⟨b,off,cap,h1,h2,h3,h4⟩
 ·exact .inl h
 ·exact .inr ⟨b,off,cap,h1,h2,fun i hi=>bF k h2 (h3 i hi),h4⟩
theorem aH {B b o:Nat} {k op n:Int} {s:ByteArray} {nv kv:Value} {p:Int} {a c:World} (h:bN b o k op n s nv kv p a) (hb:b<B) (q:Below B a c):bN b o k op n s nv kv p c:=by
 obtain⟨h0,h1,h2,h3,h4,h5,h6⟩:=h;exact⟨bF q hb h0,bF q hb h1,bF q hb h2,bF q hb h3,bF q hb h4,bF q hb h5,bF q hb h6⟩
mutual
theorem eQ {B:Nat} {a c:World} (q:Below B a c):∀ (t:Nd) (nv kv:Value),jS B a t nv kv→jS B c t nv kv
 | .mk _ _ _ _ ns ks _,nv,kv,h=>by
  rw [jS] at h ⊢;obtain⟨h1,h2⟩:=h;refine⟨fC h1 q,?_⟩;rcases h2 with h2 | ⟨b,off,cap,e,hb,h3,h4⟩
  ·exact .inl h2
  ·exact .inr ⟨b,off,cap,e,hb,gK q hb ks off h3,h4⟩
theorem gK {B:Nat} {a c:World} (q:Below B a c) {b:Nat} (hb:b<B):∀ (ks:List Nd) (off:Nat),jN B a b ks off→jN B c b ks off
 | [],_,_=>by rw [jN];trivial
 | .mk k op n s ns ks p::r,off,h=>by
  rw [jN] at h ⊢;obtain⟨⟨nv,kv,h1,h2⟩,h3⟩:=h;exact⟨⟨nv,kv,aH h1 hb q,eQ q _ _ _ h2⟩,gK q hb r _ h3⟩
end
theorem fQ {B:Nat} {a c:World} (q:Below B a c) {kv:Value} {ks:List Nd} (h:dI B a kv ks):dI B c kv ks:=by
 rcases h with h2 | ⟨b,off,cap,e,hb,h3,h4⟩
 ·exact .inl h2
 ·exact .inr ⟨b,off,cap,e,hb,gK q hb ks off h3,h4⟩
theorem fZ {B:Nat} {w:World} {b:Nat} : ∀ {ks:List Nd} {off:Nat},jN B w b ks off→∀ (i:Nat) (h:i<ks.length),
  ∃ nv kv,bN b (off+i*7) ks[i].kind ks[i].op ks[i].num ks[i].str nv kv ks[i].pl w∧jS B w ks[i] nv kv
 | .mk k op n s ns ks p::r,off,h,0,hi=>by
  rw [jN] at h;obtain⟨⟨nv,kv,h1,h2⟩,_⟩:=h;exact⟨nv,kv,by simpa [Nd.kind,Nd.op,Nd.num,Nd.str,Nd.pl] using h1,h2⟩
 | .mk k op n s ns ks p::r,off,h,i+1,hi=>by
  rw [jN] at h;obtain⟨nv,kv,h1,h2⟩:=fZ h.2 i (by simpa using hi);refine⟨nv,kv,?_,by simpa using h2⟩;have e:off+(i+1)*7=off+7+i*7:=by omega
  rw [e];simpa using h1
theorem eA {B:Nat} {w:World} {kv:Value} {ks:List Nd} (h:dI B w kv ks) :
  ∃ ao cap,kv=.slice ao ks.length cap∧(ks=[]∨∃ b off,ao=some ⟨b,off,none⟩∧b<B∧jN B w b ks off):=by
 rcases h with ⟨ao,cap,e1,e2⟩ | ⟨b,off,cap,e,hb,h3,_⟩
 ·subst e2;exact⟨ao,cap,e1,.inl rfl⟩
 ·exact⟨_,cap,e,.inr ⟨b,off,rfl,hb,h3⟩⟩
theorem eR {B:Nat} {w:World} {v:Value} {l:List ByteArray} (h:cE B v l w) :
  ∃ ao cap,v=.slice ao l.length cap∧(l=[]∨∃ b off,ao=some ⟨b,off,none⟩∧b<B∧Gu b off l w):=by
 rcases h with ⟨ao,cap,e1,e2⟩ | ⟨b,off,cap,e,hb,h3,_⟩
 ·subst e2;exact⟨ao,cap,e1,.inl rfl⟩
 ·exact⟨_,cap,e,.inr ⟨b,off,rfl,hb,h3⟩⟩
theorem AJ {B:Nat} {w:World} {a:Option Addr} {c q:Nat} {l:List Nd} (h:dI B w (.slice a c q) l):l=[]∨c≤q:=by
 rcases h with ⟨_,_,_,h⟩ | ⟨b,off,cap,e,_,_,h4⟩
 ·exact .inl h
 ·injection e with _ e2 e3;exact .inr (by omega)
theorem cC {B:Nat} {w:World} {t:Nd} {nv kv:Value} (h:jS B w t nv kv):∃ a1 c1 a2 c2,nv=.slice a1 t.names.length c1∧kv=.slice a2 t.kids.length c2:=by
 obtain⟨k,o,n,s,ns,ks,p⟩:=t;obtain⟨h1,h2⟩:=ndIn_mk.1 h;obtain⟨a1,c1,e1,_⟩:=eR h1;obtain⟨a2,c2,e2,_⟩:=eA h2;exact⟨a1,c1,a2,c2,e1,e2⟩
def kZ (g:Nat) (k o n:Int) (s:ByteArray) (nv kv:Value) (p:Int) (w:World):Prop:=
 w.heap[g]? = some (.cells #[.int .i64 k,.int .i64 o,.int .i64 n,.string s,nv,kv,.int .i64 p] 26 (0,0))
theorem yB {g:Nat} {k o n:Int} {s:ByteArray} {nv kv:Value} {p:Int} {w:World} (h:kZ g k o n s nv kv p w):g<w.heap.size:=by
 rcases Nat.lt_or_ge g w.heap.size with h' | h'
 ·exact h'
 ·simp [kZ,Array.getElem?_eq_none h'] at h
theorem cL (w:World) (k o n:Int) (s:ByteArray) (nv kv:Value) (p:Int):kZ w.heap.size k o n s nv kv p (w.alloc (.cells #[.int .i64 k,.int .i64 o,.int .i64 n,.string s,nv,kv,.int .i64 p] 26)):=
 heap_alloc_new w _
theorem lX {g:Nat} {k o n:Int} {s:ByteArray} {nv kv:Value} {p:Int} {a c:World} (h:kZ g k o n s nv kv p a) (q:Below a.heap.size a c):kZ g k o n s nv kv p c:=
 (q.block g (yB h)).trans h
theorem aI {g:Nat} {k o n:Int} {s:ByteArray} {nv kv:Value} {p:Int} {w:World} (h:kZ g k o n s nv kv p w) :
  w.cell? ⟨g,0,none⟩=some (.int .i64 k)∧w.cell? ⟨g,1,none⟩=some (.int .i64 o)∧w.cell? ⟨g,2,none⟩=some (.int .i64 n)∧w.cell? ⟨g,3,none⟩=some (.string s)∧
   w.cell? ⟨g,4,none⟩=some nv∧w.cell? ⟨g,5,none⟩=some kv∧w.cell? ⟨g,6,none⟩=some (.int .i64 p):=by
 refine⟨?_,?_,?_,?_,?_,?_,?_⟩<;>(rw [Lib.cell_of_heap h];rfl)
theorem bG (w:World) (x:Obj):Below w.heap.size w (w.alloc x):=(Below.refl _ _).alloc (Nat.le_refl _) _
theorem pH (w:World) (x y:Obj):Below w.heap.size w ((w.alloc x).alloc y):=((Below.refl _ _).alloc (Nat.le_refl _) _).alloc (by simp) _
theorem Gv (w:World) (k o n:Int) (s:ByteArray) (nv kv:Value) (p k' o' n':Int) (s':ByteArray) (nv' kv':Value) (p':Int) :
  kZ w.heap.size k o n s nv kv p ((w.alloc (.cells #[.int .i64 k,.int .i64 o,.int .i64 n,.string s,nv,kv,.int .i64 p] 26)).alloc (.cells #[.int .i64 k',.int .i64 o',.int .i64 n',.string s',nv',kv',.int .i64 p'] 26))∧
  kZ (w.heap.size+1) k' o' n' s' nv' kv' p' ((w.alloc (.cells #[.int .i64 k,.int .i64 o,.int .i64 n,.string s,nv,kv,.int .i64 p] 26)).alloc (.cells #[.int .i64 k',.int .i64 o',.int .i64 n',.string s',nv',kv',.int .i64 p'] 26)):=by
 refine⟨lX (cL w k o n s nv kv p) ((Below.refl _ _).alloc (Nat.le_refl _) _),?_⟩;have:=cL (w.alloc (.cells #[.int .i64 k,.int .i64 o,.int .i64 n,.string s,nv,kv,.int .i64 p] 26)) k' o' n' s' nv' kv' p';simpa using this
def tsgnL:List (List UInt8):=[[],[43],[45],[42],[47],[37],[60],[60,61],[62],[62,61],[61,61],[33,61]]
def signT (o:Int):List UInt8:=if o<0 then [] else tsgnL.getD o.toNat []
def builtL:List (List UInt8×Nat):=[([],0),([99,111,117,110,116],1),([107,101,121],2),([104,97,115],2),([112,114,111,116,111],1),([115,101,116,112,114,111,116,111],2),([108,101,110],1),([115,116,114],1)]
def builtT (o:Int):List UInt8×Nat:=if o<0 then ([],0) else builtL.getD o.toNat ([],0)
def rankT (k o:Int):Int:=
 if k=12 then 1 else if k=11 then 2 else if k=10 then (if o=10∨o=11 then 3 else if 6≤o∧o≤9 then 4 else if o=1∨o=2 then 5 else if 3≤o∧o≤5 then 6 else 9)
 else if k=9 then 7 else if 13≤k∧k≤16 then 8 else if 1≤k∧k≤20 then 9 else 0
def kG (k:Int):Nat:=if 1≤k∧k≤17 then 1 else if k=29 then 3 else if 21≤k∧k≤32 then 2 else 0
def bP (k:Int) (i:Nat):Nat:=if k=8∨k=29 then 2 else if (k=28∨k=30)∧0<i then 3 else 1
def properB (s:ByteArray):Bool:=nameB s.data.toList&&!iW s.data.toList
def dM (s:ByteArray):Bool:=nameB s.data.toList
def cW (k o:Int):Bool:=if k=9 then decide (1≤o∧o≤2) else if k=10 then decide (1≤o∧o≤11) else if k=17 then decide (1≤o∧o≤7) else decide (o=0)
def bU (k n:Int):Bool:=if k=2 then decide (n=0∨n=1) else if k=3 then decide (0≤n∧n≤4611686018427387903) else decide (n=0)
def bR (k:Int) (s:ByteArray):Bool:=
 if k=4 then decide (s.size≤256) else if k=5∨k=21∨k=22 then properB s else if k=13∨k=16∨k=23∨k=25 then dM s else decide (s.size=0)
def cU (k:Int) (ns:List ByteArray):Bool:=
 if k=7 then decide (ns.length≤40)&&ns.all dM else if k=8 then decide (ns.length≤6)&&ns.all properB else decide (ns.length=0)
def bS (k o:Int) (m c:Nat):Bool:=
 if 1≤k∧k≤6 then decide (c=0) else if k=7 then decide (c=m) else if k=8∨k=29 then decide (c≤40)
 else if k=9∨k=13∨k=21∨k=22∨k=25∨k=27∨k=31∨k=32 then decide (c=1)
 else if k=10∨k=11∨k=12∨k=14∨k=23∨k=26∨k=30 then decide (c=2)
 else if k=15∨k=16 then decide (1≤c∧c≤7) else if k=17 then decide (c=(builtT o).2) else if k=24∨k=28 then decide (c=3) else false
def kP (k o n:Int) (s:ByteArray) (ns:List ByteArray) (c:Nat):Bool:=cW k o&&(bU k n&&(bR k s&&(cU k ns&&bS k o ns.length c)))
mutual
def rightN:Nd→Nat→Bool
 | .mk k o n s ns ks _,a=>(kG k==a)&&(kP k o n s ns ks.length&&cP ks k 0)
def cP:List Nd→Int→Nat→Bool
 | [],_,_=>true
 | x::r,k,i=>rightN x (bP k i)&&cP r k (i+1)
end
theorem aP (k o n:Int) (s:ByteArray) (ns:List ByteArray) (ks:List Nd) (p:Int) (a:Nat):rightN (.mk k o n s ns ks p) a=((kG k==a)&&(kP k o n s ns ks.length&&cP ks k 0)):=by rw [rightN]
theorem dE {k:Int} {a:Nat} (h:∀ i,bP k i=a):∀ (ks:List Nd) (i:Nat),cP ks k i=!ks.any fun x=>!rightN x a
 | [],i=>by rw [cP];rfl
 | x::r,i=>by
  rw [cP,h,dE h r (i+1),List.any_cons];cases rightN x a<;>simp
theorem EF {k:Int} (h:k≠29):(kG k==3)=false:=by
 unfold kG;rw [beq_eq_false_iff_ne];grind
theorem EG {k:Int} (h:¬(1≤k∧k≤17)):(kG k==1)=false:=by
 unfold kG;rw [beq_eq_false_iff_ne];grind
theorem EI {k:Int} (h:¬(21≤k∧k≤32)∨k=29):(kG k==2)=false:=by
 unfold kG;rw [beq_eq_false_iff_ne];grind
def checkN (t:Nd):Int:=if 12<eZ t then 13 else if rightN t 3 then 0 else 2
def sH (ns:List ByteArray):Bool:=ns.any fun x=>decide (100<x.size)
mutual
def leftN:Nd→Int→Nat→Int
 | .mk _ _ _ s ns ks _,m,h=>if h=0∨600<s.size∨60<ns.length then -1 else if sH ns then -1 else mP ks (m - 1) (h - 1)
def mP:List Nd→Int→Nat→Int
 | [],m,_=>m
 | x::r,m,h=>if m<0 then m else mP r (leftN x m h) h
end
mutual
def dL:Nd→Bool
 | .mk _ _ _ s ns ks _=>decide (s.size≤600)&&(decide (ns.length≤60)&&(!sH ns&&qO ks))
def qO:List Nd→Bool
 | []=>true
 | x::r=>dL x&&qO r
end
theorem Li:∀ (l:List Nd) (m:Int) (h:Nat),m<0→mP l m h=m
 | [],m,h,_=>by rw [mP]
 | x::r,m,h,hm=>by rw [mP,if_pos hm]
mutual
theorem wM:∀ (t:Nd) (m:Int) (h:Nat),0≤m→-1≤leftN t m h∧leftN t m h≤m - 1
 | .mk _ _ _ s ns ks _,m,h,hm=>by
  rw [leftN];split
  ·omega
  ·split
   ·omega
   ·have:=wN ks (m - 1) (h - 1) (by omega);omega
theorem wN:∀ (l:List Nd) (m:Int) (h:Nat),-1≤m→-1≤mP l m h∧mP l m h≤m
 | [],m,h,hm=>by rw [mP];omega
 | x::r,m,h,hm=>by
  rw [mP];split
  ·omega
  ·have h1:=wM x m h (by omega);have h2:=wN r (leftN x m h) h h1.1;omega
end
mutual
theorem zF:∀ (t:Nd) (m:Int) (h:Nat),0≤leftN t m h→leftN t m h=m - bM t∧eZ t≤h∧dL t=true
 | .mk _ _ _ s ns ks _,m,h,hm=>by
  rw [leftN] at hm ⊢;split at hm
  ·omega
  ·rename_i h1;rw [if_neg h1];simp only [not_or] at h1;split at hm
   ·omega
   ·rename_i h2;rw [if_neg h2];obtain⟨e1,e2,e3⟩:=zG ks (m - 1) (h - 1) hm;have h2':sH ns=false:=by simpa using h2
    refine⟨by rw [bM];omega,by rw [eZ];omega,?_⟩;rw [dL,e3,h2',decide_eq_true (by omega),decide_eq_true (by omega)];rfl
theorem zG:∀ (l:List Nd) (m:Int) (h:Nat),0≤mP l m h→mP l m h=m - bW l∧gX l≤h∧qO l=true
 | [],m,h,hm=>by rw [mP] at hm ⊢;exact⟨by rw [bW];omega,by rw [gX];omega,by rw [qO]⟩
 | x::r,m,h,hm=>by
  rw [mP] at hm ⊢;split at hm
  ·omega
  ·rename_i h1;rw [if_neg h1];obtain⟨e1,e2,e3⟩:=zG r (leftN x m h) h hm;have h0:0≤leftN x m h:=by omega
   obtain⟨f1,f2,f3⟩:=zF x m h h0;exact⟨by rw [e1,f1,bW];omega,by rw [gX];omega,by rw [qO,e3,f3];rfl⟩
end
def Pu (t:Nd):Bool:=decide (0≤leftN t 300 40)
theorem Lj {t:Nd} (h:Pu t=true):bM t≤300∧eZ t≤40∧dL t=true:=by
 have h0:0≤leftN t 300 40:=of_decide_eq_true h;obtain⟨e1,e2,e3⟩:=zF t 300 40 h0;exact⟨by omega,e2,e3⟩
theorem Nf {ns:List ByteArray} {j:Nat} (hj:j<ns.length) (h:100<ns[j].size):sH ns=true:=by
 unfold sH;rw [List.any_eq_true];exact⟨_,List.getElem_mem hj,by simpa using h⟩
theorem Pv {ns:List ByteArray} (h:∀ (j:Nat) (hj:j<ns.length),ns[j].size≤100):sH ns=false:=by
 unfold sH;rw [List.any_eq_false];intro x hx;obtain⟨j,hj,rfl⟩:=List.getElem_of_mem hx;have:=h j hj;simp;omega
theorem lO {k o n:Int} {s:ByteArray} {ns:List ByteArray} {ks:List Nd} {p:Int} (h:dL (.mk k o n s ns ks p)=true):s.size≤600∧ns.length≤60∧(∀ x∈ns,x.size≤100)∧∀ x∈ks,dL x=true:=by
 rw [dL] at h;simp only [Bool.and_eq_true,decide_eq_true_eq,Bool.not_eq_true'] at h;obtain⟨h1,h2,h3,h4⟩:=h;refine⟨h1,h2,?_,?_⟩
 ·intro x hx;unfold sH at h3;rw [List.any_eq_false] at h3;have:=h3 x hx;simp at this;omega
 ·clear h1 h2 h3;induction ks with
  | nil=>intro x hx;cases hx
  | cons y r ih=>
   rw [qO,Bool.and_eq_true] at h4;intro x hx;rcases List.mem_cons.1 hx with e | hx
   ·rw [e];exact h4.1
   ·exact ih h4.2 x hx
end Go.Proofs.YtdnnmjhfidimcaaGreatDoor
