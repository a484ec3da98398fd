/- Nodes in memory. Which nodes are right, as a plain function. How high a tree is. A node as it is written, as a plain function. -/
import Derived.Test.YtdnnmjhfidimcaaGreatDoorProg
import Derived.Test.YtdnnmjhfidimcaaGreatDoorJoint2
import Derived.Lib.Strings
import Derived.Lib.Builder
namespace Go.Proofs.YtdnnmjhfidimcaaGreatDoor
set_option maxHeartbeats 1600000
open Go.RowKit
def Fl (b off:Nat) (l:List ByteArray) (w:World):Prop:=∀ (i:Nat) (h:i<l.length),w.cell? ⟨b,off+i,none⟩=some (.string l[i])
def cA (B:Nat) (v:Value) (l:List ByteArray) (w:World):Prop:=
 (∃ ao cap,v=.slice ao 0 cap∧l=[])∨∃ b off cap,v=.slice (some ⟨b,off,none⟩) l.length cap∧b<B∧Fl b off l w∧l.length≤cap
def bK (b o:Nat) (k op n:Int) (s:ByteArray) (nv kv:Value) (p:Int) (w:World):Prop:=
 w.cell? ⟨b,o,none⟩=some (.int .i64 k)∧w.cell? ⟨b,o+1,none⟩=some (.int .i64 op)∧w.cell? ⟨b,o+2,none⟩=some (.int .i64 n)∧w.cell? ⟨b,o+3,none⟩=some (.string s)∧
  w.cell? ⟨b,o+4,none⟩=some nv∧w.cell? ⟨b,o+5,none⟩=some kv∧w.cell? ⟨b,o+6,none⟩=some (.int .i64 p)
mutual
def lB (B:Nat) (w:World):Nd→Value→Value→Prop
 | .mk _ _ _ _ ns ks _,nv,kv=>cA B nv ns w∧((∃ ao cap,kv=.slice ao 0 cap∧ks=[])∨∃ b off cap,kv=.slice (some ⟨b,off,none⟩) ks.length cap∧b<B∧jZ B w b ks off∧ks.length≤cap)
def jZ (B:Nat) (w:World) (b:Nat):List Nd→Nat→Prop
 | [],_=>True
 | .mk k op n s ns ks p::r,off=>(∃ nv kv,bK b off k op n s nv kv p w∧lB B w (.mk k op n s ns ks p) nv kv)∧jZ B w b r (off+7)
end
def dA (B:Nat) (w:World) (kv:Value) (ks:List Nd):Prop:=
 (∃ ao cap,kv=.slice ao 0 cap∧ks=[])∨∃ b off cap,kv=.slice (some ⟨b,off,none⟩) ks.length cap∧b<B∧jZ B w b ks off∧ks.length≤cap
theorem ndIn_mk {B:Nat} {w:World} {k o n:Int} {s:ByteArray} {ns:List ByteArray} {ks:List Nd} {p:Int} {nv kv:Value} : lB B w (.mk k o n s ns ks p) nv kv↔cA B nv ns w∧dA B w kv ks:=by
 rw [lB];rfl
theorem cN {B:Nat} {a c:World} (k:Below B a c) {g i:Nat} {v:Value} (hg:g<B) (hc:a.cell? ⟨g,i,none⟩=some v):c.cell? ⟨g,i,none⟩=some v:=
 (k.cell (p:=⟨g,i,none⟩) hg).trans hc
theorem eB {B:Nat} {v:Value} {l:List ByteArray} {a c:World} (h:cA B v l a) (k:Below B a c):cA B v l c:=by
 rcases h with h | ⟨b,off,cap,h1,h2,h3,h4⟩
 ·exact .inl h
 ·exact .inr ⟨b,off,cap,h1,h2,fun i hi=>cN k h2 (h3 i hi),h4⟩
theorem aG {B b o:Nat} {k op n:Int} {s:ByteArray} {nv kv:Value} {p:Int} {a c:World} (h:bK b o k op n s nv kv p a) (hb:b<B) (q:Below B a c):bK b o k op n s nv kv p c:=by
 obtain⟨h0,h1,h2,h3,h4,h5,h6⟩:=h;exact⟨cN q hb h0,cN q hb h1,cN q hb h2,cN q hb h3,cN q hb h4,cN q hb h5,cN q hb h6⟩
mutual
theorem iN {B:Nat} {a c:World} (q:Below B a c):∀ (t:Nd) (nv kv:Value),lB B a t nv kv→lB B c t nv kv
 | .mk _ _ _ _ ns ks _,nv,kv,h=>by
  rw [lB] at h ⊢;obtain⟨h1,h2⟩:=h;refine⟨eB h1 q,?_⟩;rcases h2 with h2 | ⟨b,off,cap,e,hb,h3,h4⟩
  ·exact .inl h2
  ·exact .inr ⟨b,off,cap,e,hb,gC q hb ks off h3,h4⟩
theorem gC {B:Nat} {a c:World} (q:Below B a c) {b:Nat} (hb:b<B):∀ (ks:List Nd) (off:Nat),jZ B a b ks off→jZ B c b ks off
 | [],_,_=>by rw [jZ];trivial
 | .mk k op n s ns ks p::r,off,h=>by
  rw [jZ] at h ⊢;obtain⟨⟨nv,kv,h1,h2⟩,h3⟩:=h;exact⟨⟨nv,kv,aG h1 hb q,iN q _ _ _ h2⟩,gC q hb r _ h3⟩
end
theorem dV {B:Nat} {a c:World} (q:Below B a c) {kv:Value} {ks:List Nd} (h:dA B a kv ks):dA B c kv ks:=by
 rcases h with h2 | ⟨b,off,cap,e,hb,h3,h4⟩
 ·exact .inl h2
 ·exact .inr ⟨b,off,cap,e,hb,gC q hb ks off h3,h4⟩
theorem fZ {B:Nat} {w:World} {b:Nat} : ∀ {ks:List Nd} {off:Nat},jZ B w b ks off→∀ (i:Nat) (h:i<ks.length),
  ∃ nv kv,bK b (off+i*7) ks[i].kind ks[i].op ks[i].num ks[i].str nv kv ks[i].pl w∧lB B w ks[i] nv kv
 | .mk k op n s ns ks p::r,off,h,0,hi=>by
  rw [jZ] at h;obtain⟨⟨nv,kv,h1,h2⟩,_⟩:=h;exact⟨nv,kv,by simpa [Nd.kind,Nd.op,Nd.num,Nd.str,Nd.pl] using h1,h2⟩
 | .mk k op n s ns ks p::r,off,h,i+1,hi=>by
  rw [jZ] at h;obtain⟨nv,kv,h1,h2⟩:=fZ h.2 i (by simpa using hi);refine⟨nv,kv,?_,by simpa using h2⟩;have e:off+(i+1)*7=off+7+i*7:=by omega
  rw [e];simpa using h1
theorem eM {B:Nat} {w:World} {kv:Value} {ks:List Nd} (h:dA B w kv ks) :
  ∃ ao cap,kv=.slice ao ks.length cap∧(ks=[]∨∃ b off,ao=some ⟨b,off,none⟩∧b<B∧jZ B w b ks off):=by
 rcases h with ⟨ao,cap,e1,e2⟩ | ⟨b,off,cap,e,hb,h3,_⟩
 ·subst e2;exact⟨ao,cap,e1,.inl rfl⟩
 ·exact⟨_,cap,e,.inr ⟨b,off,rfl,hb,h3⟩⟩
theorem fS {B:Nat} {w:World} {v:Value} {l:List ByteArray} (h:cA B v l w) :
  ∃ ao cap,v=.slice ao l.length cap∧(l=[]∨∃ b off,ao=some ⟨b,off,none⟩∧b<B∧Fl b off l w):=by
 rcases h with ⟨ao,cap,e1,e2⟩ | ⟨b,off,cap,e,hb,h3,_⟩
 ·subst e2;exact⟨ao,cap,e1,.inl rfl⟩
 ·exact⟨_,cap,e,.inr ⟨b,off,rfl,hb,h3⟩⟩
theorem zB {B:Nat} {w:World} {a:Option Addr} {c q:Nat} {l:List Nd} (h:dA B w (.slice a c q) l):l=[]∨c≤q:=by
 rcases h with ⟨_,_,_,h⟩ | ⟨b,off,cap,e,_,_,h4⟩
 ·exact .inl h
 ·injection e with _ e2 e3;exact .inr (by omega)
theorem bY {B:Nat} {w:World} {t:Nd} {nv kv:Value} (h:lB B w t nv kv):∃ a1 c1 a2 c2,nv=.slice a1 t.names.length c1∧kv=.slice a2 t.kids.length c2:=by
 obtain⟨k,o,n,s,ns,ks,p⟩:=t;obtain⟨h1,h2⟩:=ndIn_mk.1 h;obtain⟨a1,c1,e1,_⟩:=fS h1;obtain⟨a2,c2,e2,_⟩:=eM h2;exact⟨a1,c1,a2,c2,e1,e2⟩
def mL (g:Nat) (k o n:Int) (s:ByteArray) (nv kv:Value) (p:Int) (w:World):Prop:=
 w.heap[g]? = some (.cells #[.int .i64 k,.int .i64 o,.int .i64 n,.string s,nv,kv,.int .i64 p] 26 (0,0))
theorem Cs {g:Nat} {k o n:Int} {s:ByteArray} {nv kv:Value} {p:Int} {w:World} (h:mL g k o n s nv kv p w):g<w.heap.size:=by
 rcases Nat.lt_or_ge g w.heap.size with h' | h'
 ·exact h'
 ·simp [mL,Array.getElem?_eq_none h'] at h
theorem cH (w:World) (k o n:Int) (s:ByteArray) (nv kv:Value) (p:Int):mL w.heap.size k o n s nv kv p (w.alloc (.cells #[.int .i64 k,.int .i64 o,.int .i64 n,.string s,nv,kv,.int .i64 p] 26)):=
 heap_alloc_new w _
theorem nR {g:Nat} {k o n:Int} {s:ByteArray} {nv kv:Value} {p:Int} {a c:World} (h:mL g k o n s nv kv p a) (q:Below a.heap.size a c):mL g k o n s nv kv p c:=
 (q.block g (Cs h)).trans h
theorem aJ {g:Nat} {k o n:Int} {s:ByteArray} {nv kv:Value} {p:Int} {w:World} (h:mL g k o n s nv kv p w) :
  w.cell? ⟨g,0,none⟩=some (.int .i64 k)∧w.cell? ⟨g,1,none⟩=some (.int .i64 o)∧w.cell? ⟨g,2,none⟩=some (.int .i64 n)∧w.cell? ⟨g,3,none⟩=some (.string s)∧
   w.cell? ⟨g,4,none⟩=some nv∧w.cell? ⟨g,5,none⟩=some kv∧w.cell? ⟨g,6,none⟩=some (.int .i64 p):=by
 refine⟨?_,?_,?_,?_,?_,?_,?_⟩<;>(rw [Lib.cell_of_heap h];rfl)
theorem bC (w:World) (x:Obj):Below w.heap.size w (w.alloc x):=(Below.refl _ _).alloc (Nat.le_refl _) _
theorem kE (w:World) (x y:Obj):Below w.heap.size w ((w.alloc x).alloc y):=((Below.refl _ _).alloc (Nat.le_refl _) _).alloc (by simp) _
theorem LE (w:World) (k o n:Int) (s:ByteArray) (nv kv:Value) (p k' o' n':Int) (s':ByteArray) (nv' kv':Value) (p':Int) :
  mL w.heap.size k o n s nv kv p ((w.alloc (.cells #[.int .i64 k,.int .i64 o,.int .i64 n,.string s,nv,kv,.int .i64 p] 26)).alloc (.cells #[.int .i64 k',.int .i64 o',.int .i64 n',.string s',nv',kv',.int .i64 p'] 26))∧
  mL (w.heap.size+1) k' o' n' s' nv' kv' p' ((w.alloc (.cells #[.int .i64 k,.int .i64 o,.int .i64 n,.string s,nv,kv,.int .i64 p] 26)).alloc (.cells #[.int .i64 k',.int .i64 o',.int .i64 n',.string s',nv',kv',.int .i64 p'] 26)):=by
 refine⟨nR (cH w k o n s nv kv p) ((Below.refl _ _).alloc (Nat.le_refl _) _),?_⟩;have:=cH (w.alloc (.cells #[.int .i64 k,.int .i64 o,.int .i64 n,.string s,nv,kv,.int .i64 p] 26)) k' o' n' s' nv' kv' p';simpa using this
def tsgnL:List (List UInt8):=[[],[43],[45],[42],[47],[37],[60],[60,61],[62],[62,61],[61,61],[33,61]]
def signT (o:Int):List UInt8:=if o<0 then [] else tsgnL.getD o.toNat []
def builtL:List (List UInt8×Nat):=[([],0),([99,111,117,110,116],1),([107,101,121],2),([104,97,115],2),([112,114,111,116,111],1),([115,101,116,112,114,111,116,111],2),([108,101,110],1),([115,116,114],1)]
def builtT (o:Int):List UInt8×Nat:=if o<0 then ([],0) else builtL.getD o.toNat ([],0)
def rankT (k o:Int):Int:=
 if k=12 then 1 else if k=11 then 2 else if k=10 then (if o=10∨o=11 then 3 else if 6≤o∧o≤9 then 4 else if o=1∨o=2 then 5 else if 3≤o∧o≤5 then 6 else 9)
 else if k=9 then 7 else if 13≤k∧k≤16 then 8 else if 1≤k∧k≤20 then 9 else 0
def jS (k:Int):Nat:=if 1≤k∧k≤17 then 1 else if k=29 then 3 else if 21≤k∧k≤32 then 2 else 0
def bJ (k:Int) (i:Nat):Nat:=if k=8∨k=29 then 2 else if (k=28∨k=30)∧0<i then 3 else 1
def properB (s:ByteArray):Bool:=nameB s.data.toList&&!jG s.data.toList
def dH (s:ByteArray):Bool:=nameB s.data.toList
def cT (k o:Int):Bool:=if k=9 then decide (1≤o∧o≤2) else if k=10 then decide (1≤o∧o≤11) else if k=17 then decide (1≤o∧o≤7) else decide (o=0)
def bQ (k n:Int):Bool:=if k=2 then decide (n=0∨n=1) else if k=3 then decide (0≤n∧n≤4611686018427387903) else decide (n=0)
def bM (k:Int) (s:ByteArray):Bool:=
 if k=4 then decide (s.size≤256) else if k=5∨k=21∨k=22 then properB s else if k=13∨k=16∨k=23∨k=25 then dH s else decide (s.size=0)
def cR (k:Int) (ns:List ByteArray):Bool:=
 if k=7 then decide (ns.length≤40)&&ns.all dH else if k=8 then decide (ns.length≤6)&&ns.all properB else decide (ns.length=0)
def bN (k o:Int) (m c:Nat):Bool:=
 if 1≤k∧k≤6 then decide (c=0) else if k=7 then decide (c=m) else if k=8∨k=29 then decide (c≤40)
 else if k=9∨k=13∨k=21∨k=22∨k=25∨k=27∨k=31∨k=32 then decide (c=1)
 else if k=10∨k=11∨k=12∨k=14∨k=23∨k=26∨k=30 then decide (c=2)
 else if k=15∨k=16 then decide (1≤c∧c≤7) else if k=17 then decide (c=(builtT o).2) else if k=24∨k=28 then decide (c=3) else false
def kD (k o n:Int) (s:ByteArray) (ns:List ByteArray) (c:Nat):Bool:=cT k o&&(bQ k n&&(bM k s&&(cR k ns&&bN k o ns.length c)))
mutual
def rightN:Nd→Nat→Bool
 | .mk k o n s ns ks _,a=>(jS k==a)&&(kD k o n s ns ks.length&&cL ks k 0)
def cL:List Nd→Int→Nat→Bool
 | [],_,_=>true
 | x::r,k,i=>rightN x (bJ k i)&&cL r k (i+1)
end
theorem aQ (k o n:Int) (s:ByteArray) (ns:List ByteArray) (ks:List Nd) (p:Int) (a:Nat):rightN (.mk k o n s ns ks p) a=((jS k==a)&&(kD k o n s ns ks.length&&cL ks k 0)):=by rw [rightN]
theorem dB {k:Int} {a:Nat} (h:∀ i,bJ k i=a):∀ (ks:List Nd) (i:Nat),cL ks k i=!ks.any fun x=>!rightN x a
 | [],i=>by rw [cL];rfl
 | x::r,i=>by
  rw [cL,h,dB h r (i+1),List.any_cons];cases rightN x a<;>simp
theorem DB {k:Int} (h:k≠29):(jS k==3)=false:=by
 unfold jS;rw [beq_eq_false_iff_ne];grind
theorem DC {k:Int} (h:¬(1≤k∧k≤17)):(jS k==1)=false:=by
 unfold jS;rw [beq_eq_false_iff_ne];grind
theorem DD {k:Int} (h:¬(21≤k∧k≤32)∨k=29):(jS k==2)=false:=by
 unfold jS;rw [beq_eq_false_iff_ne];grind
def checkN (t:Nd):Int:=if 12<fF t then 13 else if rightN t 3 then 0 else 2
theorem ML {α:Type} (l:List α) (i:Nat) (h:i<l.length):l.take (i+1)=l.take i++[l[i]]:=by
 rw [List.take_succ_eq_append_getElem h]
theorem CT (t:Nd):∀ (B:Nat) (w:World) (nv kv:Value),B≤w.heap.size→Hid (lB B w t nv kv)→bH t≤1000000→
  Calls Tryz.prog 39 #[.agg #[.int .i64 t.kind,.int .i64 t.op,.int .i64 t.num,.string t.str,nv,kv,.int .i64 t.pl]] w fun e w'=>
   e=.returned (.int .i64 (fF t))∧Below w.heap.size w w':=by
 refine Nd.ind (P:=fun t=>∀ (B:Nat) (w:World) (nv kv:Value),B≤w.heap.size→Hid (lB B w t nv kv)→bH t≤1000000→
  Calls Tryz.prog 39 #[.agg #[.int .i64 t.kind,.int .i64 t.op,.int .i64 t.num,.string t.str,nv,kv,.int .i64 t.pl]] w fun e w'=>
   e=.returned (.int .i64 (fF t))∧Below w.heap.size w w') ?_ t
 clear t;intro k o n s ns ks p ih B w nv kv hB hN hc;obtain⟨hs,hk⟩:=ndIn_mk.1 hN.out;obtain⟨ao,cap,rfl,hks⟩:=eM hk;clear hk hN hs;have hlen:=dW ks;have hhc:=xF ks;simp only [bH] at hc;simp only [Nd.kind,Nd.op,Nd.num,Nd.str,Nd.pl];have IH:=aA ih;have KS:=aA hks;have HC:=aA (show fF (.mk k o n s ns ks p)=hD ks+1 by simp [fF]);clear ih hks;go_enter Tryz.func39,Tryz.ntmps39;go_wp2_with fail;go_loopw [3,9] (fun a i wr=>∃ j:Nat,j≤ks.length∧i=.int .i64 j∧a=.int .i64 (hD (ks.take j))∧Below w.heap.size w wr) (fun _ i _=>ks.length - (intOf i).toNat)
 case atStart=>exact⟨0,Nat.zero_le _,rfl,rfl,(Below.refl _ _).alloc (Nat.le_refl _) _⟩
 case round=>
  obtain⟨j,hj,rfl,rfl,hb⟩:=hrel;have hct:=zA ks j;by_cases hjl:j<ks.length
  ·obtain⟨b,off,rfl,hbB,hat⟩:=KS.out.resolve_left (fun h=>by rw [h] at hjl;cases hjl);obtain⟨nv',kv',hnode,hin⟩:=fZ hat j hjl;have hb':=hb.mono hB;obtain⟨c0,c1,c2,c3,c4,c5,c6⟩:=aG hnode hbB hb';have hin':=iN hb' _ _ _ hin;have ih:=IH.out ks[j] (List.getElem_mem hjl);have hcm:=jA (List.getElem_mem hjl);have HT:=aA (show hD (ks.take (j+1))=max (hD (ks.take j)) (fF ks[j]) by rw [ML ks j hjl,Fj]);have hct1:=zA ks (j+1);rw [HT.out] at hct1;generalize ks[j]=x at *
   have N:=aA hin';have BB:=aA hb;have hsz:=hb.size;obtain⟨a1,q1,a2,q2,rfl,rfl⟩:=bY hin;have IH':=aA ih;clear hin hin' hnode hat hb hb' ih KS IH;go_wp2_with fail;refine (IH'.out B _ _ _ (by simp;omega) (aA (iN ((Below.refl B wr).alloc (by omega) _) _ _ _ N.out)) (by omega)).mono ?_;rintro e w1 ⟨rfl,b1⟩;have B1:=aA ((BB.out.alloc hsz _).trans (b1.mono (by simp;omega)));clear b1 BB N;go_wp2_with fail;go_roundw
   case rel=>exact⟨j+1,by omega,by go_num,by rw [HT.out];go_num,B1.out⟩
   case measure=>simp [intOf];omega
  ·have e:ks.take j=ks:=List.take_of_length_le (by omega);have BB:=aA hb;clear hb;go_wp2_with fail;go_ret;exact⟨by rw [HC.out,e];rfl,BB.out⟩
def iJ (k n:Int) (s:ByteArray):List UInt8:=
 if k=1 then [110,117,108,108] else if k=6 then [116,104,105,115] else if k=2 then (if n=0 then [102,97,108,115,101] else [116,114,117,101])
 else if k=3 then digs n else if k=4 then kV s.data.toList else s.data.toList
structure Tx where
 kind:Int
 rank:Int
 e:List UInt8
 s:List UInt8
 b:List UInt8
 has:Bool
def Tx.none:Tx:=⟨0,0,[],[],[],false⟩
def cB (x:Tx) (least:Int):List UInt8:=if least≤x.rank then x.e else 40::(x.e++[41])
def nD (l:List Tx):List UInt8:=l.flatMap fun x=>44::32::x.e
def jJ:List Tx→List UInt8
 | []=>[]
 | x::r=>x.e++nD r
def iT (l:List Tx):List UInt8:=40::(jJ l++[41])
def mV (s:ByteArray) (x:Tx):List UInt8:=s.data.toList++(58::32::x.e)
def gZ:List ByteArray→List Tx→List UInt8
 | s::ns,x::r=>44::32::(mV s x++gZ ns r)
 | _,_=>[]
def oZ:List ByteArray→List Tx→List UInt8
 | s::ns,x::r=>123::(mV s x++gZ ns r++[125])
 | _,_=>[123,125]
def nN:List ByteArray→List UInt8
 | []=>[]
 | s::r=>s.data.toList++r.flatMap fun x=>44::32::x.data.toList
def fI (l:List Tx):List UInt8:=l.flatMap fun x=>32::x.s
def blockT (l:List Tx):List UInt8:=123::(fI l++(if l.isEmpty then [125] else [32,125]))
def dS:List Tx→List UInt8
 | []=>[]
 | x::r=>x.s++fI r
def lD (x:Tx) (s:ByteArray):List UInt8:=cB x 8++(46::s.data.toList)
def gT (x y:Tx):List UInt8:=cB x 8++(91::(y.e++[93]))
def cZ (x:Tx):List UInt8:=32::61::32::x.e
def fH (r:Int) (sg:List UInt8) (x y:Tx):List UInt8:=cB x r++(32::(sg++(32::cB y (r+1))))
def rG (l:List Tx):Tx:=l.getD 0 Tx.none
def Bl (l:List Tx):Tx:=l.getD 1 Tx.none
def MP (l:List Tx):Tx:=l.getD 2 Tx.none
def exprT (k o n:Int) (s:ByteArray) (ns:List ByteArray) (l:List Tx):List UInt8:=
 if k=7 then oZ ns l
 else if k=8 then [102,110,40]++(nN ns++([41,32]++blockT l))
 else if k=9 then (if o=1 then 45 else 33)::cB (rG l) 7
 else if k=10 then fH (rankT 10 o) (signT o) (rG l) (Bl l)
 else if k=11 then fH 2 [38,38] (rG l) (Bl l)
 else if k=12 then fH 1 [124,124] (rG l) (Bl l)
 else if k=13 then lD (rG l) s
 else if k=14 then gT (rG l) (Bl l)
 else if k=15 then cB (rG l) (if (rG l).kind=13 then 9 else 8)++iT l.tail
 else if k=16 then lD (rG l) s++iT l.tail
 else if k=17 then (builtT o).1++iT l
 else iJ k n s
def At (k:Int) (s:ByteArray) (l:List Tx):List UInt8:=
 if k=21 then [108,101,116,32]++(s.data.toList++cZ (rG l))
 else if k=22 then s.data.toList++cZ (rG l)
 else if k=23 then lD (rG l) s++cZ (Bl l)
 else if k=24 then gT (rG l) (Bl l)++cZ (MP l)
 else if k=25 then [100,101,108,101,116,101,32]++lD (rG l) s
 else if k=26 then [100,101,108,101,116,101,32]++gT (rG l) (Bl l)
 else if k=27 then [112,114,105,110,116,32]++(rG l).e
 else if k=31 then [114,101,116,117,114,110,32]++(rG l).e
 else if k=32 then (rG l).e else []
def dN (key:List UInt8) (x y:Tx):List UInt8:=key++([32,40]++(x.e++([41,32]++y.b)))
def stmtT (k:Int) (s:ByteArray) (l:List Tx):List UInt8:=
 if k=28 then dN [105,102] (rG l) (Bl l)++(if (MP l).has then [32,101,108,115,101,32]++(MP l).b else [])
 else if k=30 then dN [119,104,105,108,101] (rG l) (Bl l)
 else At k s l++[59]
mutual
def textN:Nd→Tx
 | .mk k o n s ns ks _=>⟨k,rankT k o,exprT k o n s ns (Au ks),stmtT k s (Au ks),blockT (Au ks),!ks.isEmpty⟩
def Au:List Nd→List Tx
 | []=>[]
 | x::r=>textN x::Au r
end
theorem BW:∀ l:List Nd,Au l=l.map textN
 | []=>by rw [Au];rfl
 | x::r=>by rw [Au,BW r];rfl
theorem mC (k o n:Int) (s:ByteArray) (ns:List ByteArray) (ks:List Nd) (p:Int) :
  textN (.mk k o n s ns ks p)=⟨k,rankT k o,exprT k o n s ns (ks.map textN),stmtT k s (ks.map textN),blockT (ks.map textN),!ks.isEmpty⟩:=by
 rw [textN,BW]
def lL (t:Nd):List UInt8:=dS (t.kids.map textN)
def sE (t:Nd):List UInt8×Int:=if checkN t≠0 then ([],checkN t) else if 2000<(lL t).length then ([],3) else (lL t,0)
def WroteT (l t l':List UInt8):Prop:=l'.length≤l.length+t.length∧((l.length+t.length≤2000∧l'=l++t)∨(2000<l.length+t.length∧2000<l'.length))
theorem WroteT.all (l t:List UInt8):WroteT l t (l++t):=by
 refine⟨by simp,?_⟩;rcases Nat.lt_or_ge 2000 (l.length+t.length) with h | h
 ·exact .inr ⟨h,by simpa using h⟩
 ·exact .inl ⟨h,rfl⟩
theorem WroteT.none {l:List UInt8} (h:2000<l.length) (t:List UInt8):WroteT l t l:=⟨by omega,.inr ⟨by omega,h⟩⟩
theorem WroteT.nil (l:List UInt8):WroteT l [] l:=by simpa using WroteT.all l []
theorem WroteT.trans {l t l' u l'':List UInt8} (h:WroteT l t l') (k:WroteT l' u l''):WroteT l (t++u) l'':=by
 obtain⟨h1,h2⟩:=h;obtain⟨k1,k2⟩:=k;refine⟨by simp;omega,?_⟩;rcases h2 with ⟨h2,e⟩ | ⟨h2,h3⟩
 ·subst e;rcases k2 with ⟨k2,e⟩ | ⟨k2,k3⟩
  ·exact .inl ⟨by simp at k2 ⊢;omega,by rw [e];simp⟩
  ·exact .inr ⟨by simp at k2 ⊢;omega,k3⟩
 ·rcases k2 with ⟨k2,e⟩ | ⟨k2,k3⟩
  ·omega
  ·exact .inr ⟨by simp;omega,k3⟩
theorem WroteT.of {l t l' u:List UInt8} (h:WroteT l t l') (e:t=u):WroteT l u l':=e▸h
end Go.Proofs.YtdnnmjhfidimcaaGreatDoor
