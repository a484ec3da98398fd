/- What all our texts stand on: hidden facts, and chains of calls that leave old memory alone. Nodes as plain data, and what the document says of them as plain functions. Which nodes are right, as a plain function. Whether a tree has few nodes, not too high, with short texts. A node as it is written, as a plain function. -/
import Derived.WalkKit
import Derived.WalkLawsBesides
import Derived.WalkSpells
import Derived.Outline
import Derived.Below
import Derived.Test.YtdnnmjhfidimcaaGreatDoorJoint1
namespace Go.Proofs.YtdnnmjhfidimcaaGreatDoor
open Go.RowKit
theorem aA {p:Prop} (h:p):Hid p:=h
theorem bB {a b c:World} (h:Below a.heap.size a b) (k:Below b.heap.size b c):Below a.heap.size a c:=h.trans (k.mono h.size)
theorem aH {B:Nat} {a b c:World} (h:Below B a b) (hB:B≤a.heap.size) (k:Below b.heap.size b c):Below B a c:=h.trans (k.mono (Nat.le_trans hB h.size))
inductive Nd where
 | mk (kind op num:Int) (str:ByteArray) (names:List ByteArray) (kids:List Nd) (pl:Int):Nd
def Nd.kind:Nd→Int | .mk k _ _ _ _ _ _=>k
def Nd.op:Nd→Int | .mk _ o _ _ _ _ _=>o
def Nd.num:Nd→Int | .mk _ _ n _ _ _ _=>n
def Nd.str:Nd→ByteArray | .mk _ _ _ s _ _ _=>s
def Nd.names:Nd→List ByteArray | .mk _ _ _ _ ns _ _=>ns
def Nd.kids:Nd→List Nd | .mk _ _ _ _ _ ks _=>ks
def Nd.pl:Nd→Int | .mk _ _ _ _ _ _ p=>p
mutual
theorem Nd.ind {P:Nd→Prop} (h:∀ k o n s ns ks p,(∀ x∈ks,P x)→P (.mk k o n s ns ks p)):∀ t,P t
 | .mk k o n s ns ks p=>h k o n s ns ks p (Nd.indL h ks)
theorem Nd.indL {P:Nd→Prop} (h:∀ k o n s ns ks p,(∀ x∈ks,P x)→P (.mk k o n s ns ks p)):∀ (ks:List Nd) (x:Nd),x∈ks→P x
 | [],x,hx=>by cases hx
 | k::ks,x,hx=>by
  rcases List.mem_cons.1 hx with e | hx
  ·rw [e];exact Nd.ind h k
  ·exact Nd.indL h ks x hx
end
/-! how high, and how many -/
mutual
def fF:Nd→Nat
 | .mk _ _ _ _ _ ks _=>hD ks+1
def hD:List Nd→Nat
 | []=>0
 | k::ks=>max (fF k) (hD ks)
end
mutual
def bH:Nd→Nat
 | .mk _ _ _ _ _ ks _=>bU ks+1
def bU:List Nd→Nat
 | []=>0
 | k::ks=>bH k+bU ks
end
theorem Fj (l:List Nd) (x:Nd):hD (l++[x])=max (hD l) (fF x):=by
 induction l with
 | nil=>simp [hD]
 | cons k ks ih=>simp only [List.cons_append,hD,ih];omega
theorem pB (l:List Nd) (x:Nd):bU (l++[x])=bU l+bH x:=by
 induction l with
 | nil=>simp [bU]
 | cons k ks ih=>simp only [List.cons_append,bU,ih];omega
theorem Fk (t:Nd):1≤bH t:=by cases t;simp [bH]
theorem Jx (t:Nd):1≤fF t:=by cases t;simp [fF]
theorem jA {x:Nd} : ∀ {l:List Nd},x∈l→bH x≤bU l
 | k::ks,h=>by
  rcases List.mem_cons.1 h with e | h
  ·rw [e];simp [bU]
  ·have:=jA h;simp [bU];omega
theorem dW:∀ l:List Nd,l.length≤bU l
 | []=>Nat.le_refl _
 | k::ks=>by have:=dW ks;have:=Fk k;simp [bU];omega
theorem Bb (t:Nd):fF t≤bH t:=by
 refine Nd.ind (P:=fun t=>fF t≤bH t) ?_ t;intro k o n s ns ks p ih;simp only [fF,bH];have:hD ks≤bU ks:=by
  clear k o n s ns p;induction ks with
  | nil=>simp [hD]
  | cons x xs ih2=>
   have h1:=ih x (by simp);have h2:=ih2 (fun y hy=>ih y (by simp [hy]));simp [hD,bU];omega
 omega
theorem xF:∀ l:List Nd,hD l≤bU l
 | []=>Nat.le_refl _
 | k::ks=>by have:=xF ks;have:=Bb k;simp [hD,bU];omega
theorem Cr (l m:List Nd):hD (l++m)=max (hD l) (hD m):=by
 induction l with
 | nil=>simp [hD]
 | cons k ks ih=>simp only [List.cons_append,hD,ih];omega
theorem zA (l:List Nd) (i:Nat):hD (l.take i)≤hD l:=by
 have:hD (l.take i++l.drop i)=max (hD (l.take i)) (hD (l.drop i)):=Cr _ _;rw [List.take_append_drop] at this;omega
/-! whether two are alike -/
def namesB (ns ns':List ByteArray):Bool:=ns.map (·.data.toList)==ns'.map (·.data.toList)
def alikeB (k o n:Int) (s:ByteArray) (ns:List ByteArray) (c:Nat) (k' o' n':Int) (s':ByteArray) (ns':List ByteArray) (c':Nat):Bool:=
 (k==k')&&((o==o')&&((n==n')&&((s.data.toList==s'.data.toList)&&(namesB ns ns'&&(c==c')))))
mutual
def sameN:Nd→Nd→Bool
 | .mk k o n s ns ks _,.mk k' o' n' s' ns' ks' _=>(k==k')&&((o==o')&&((n==n')&&((s.data.toList==s'.data.toList)&&(namesB ns ns'&&kT ks ks'))))
def kT:List Nd→List Nd→Bool
 | [],[]=>true
 | a::as',b::bs=>sameN a b&&kT as' bs
 | _,_=>false
end
theorem qD:∀ (l m:List Nd),kT l m=true→l.length=m.length
 | [],[],_=>rfl
 | a::l,b::m,h=>by
  rw [kT,Bool.and_eq_true] at h;have:=qD l m h.2;simp [this]
 | [],b::m,h=>by simp [kT] at h
 | a::l,[],h=>by simp [kT] at h
theorem Bw:∀ (l m:List Nd),l.length=m.length→(∀ (i:Nat) (h:i<l.length) (h':i<m.length),sameN l[i] m[i]=true)→kT l m=true
 | [],[],_,_=>by rw [kT]
 | a::l,b::m,hl,h=>by
  rw [kT,Bool.and_eq_true];exact⟨h 0 (by simp) (by simp),Bw l m (by simpa using hl) (fun i h1 h2=>h (i+1) (by simpa using h1) (by simpa using h2))⟩
theorem Bx:∀ (l m:List Nd) (i:Nat) (h:i<l.length) (h':i<m.length),sameN l[i] m[i]=false→kT l m=false
 | a::l,b::m,0,_,_,h=>by rw [kT,Bool.and_eq_false_iff];exact .inl h
 | a::l,b::m,i+1,h1,h2,h=>by
  rw [kT,Bool.and_eq_false_iff];exact .inr (Bx l m i (by simpa using h1) (by simpa using h2) h)
theorem Dz (l m:List Nd) (h:l.length≠m.length):kT l m=false:=by
 cases hq:kT l m with
 | false=>rfl
 | true=>exact absurd (qD l m hq) h
theorem LD (k o n:Int) (s:ByteArray) (ns:List ByteArray) (ks:List Nd) (p k' o' n':Int) (s':ByteArray) (ns':List ByteArray) (ks':List Nd) (p':Int) :
  sameN (.mk k o n s ns ks p) (.mk k' o' n' s' ns' ks' p')=(alikeB k o n s ns ks.length k' o' n' s' ns' ks'.length&&kT ks ks'):=by
 rw [sameN];unfold alikeB;cases hq:kT ks ks' with
 | false=>simp
 | true=>simp [qD _ _ hq]
theorem DA {l m:List ByteArray} (h:l.length≠m.length):namesB l m=false:=by
 unfold namesB;rw [beq_eq_false_iff_ne];intro e;exact h (by simpa using congrArg List.length e)
theorem Jy {l m:List ByteArray} (hl:l.length=m.length) (h:∀ (i:Nat) (h:i<l.length) (h':i<m.length),l[i].data.toList=m[i].data.toList):namesB l m=true:=by
 unfold namesB;rw [beq_iff_eq];refine List.ext_getElem (by simpa using hl) ?_;intro i h1 h2;simpa using h i (by simpa using h1) (by simpa using h2)
theorem Jz {l m:List ByteArray} {i:Nat} (h:i<l.length) (h':i<m.length) (hn:l[i].data.toList≠m[i].data.toList):namesB l m=false:=by
 unfold namesB;rw [beq_eq_false_iff_ne];intro e;have:(l.map (·.data.toList))[i]? = (m.map (·.data.toList))[i]?:=by rw [e]
 rw [List.getElem?_eq_getElem (by simpa using h),List.getElem?_eq_getElem (by simpa using h')] at this;exact hn (by simpa using this)
def tsgnL:List (List UInt8):=[[],[43],[45],[42],[47],[37],[60],[60,61],[62],[62,61],[61,61],[33,61]]
def signT (o:Int):List UInt8:=if o<0 then [] else tsgnL.getD o.toNat []
def builtL:List (List UInt8×Nat):=[([],0),([99,111,117,110,116],1),([107,101,121],2),([104,97,115],2),([112,114,111,116,111],1),([115,101,116,112,114,111,116,111],2),([108,101,110],1),([115,116,114],1)]
def builtT (o:Int):List UInt8×Nat:=if o<0 then ([],0) else builtL.getD o.toNat ([],0)
def rankT (k o:Int):Int:=
 if k=12 then 1 else if k=11 then 2 else if k=10 then (if o=10∨o=11 then 3 else if 6≤o∧o≤9 then 4 else if o=1∨o=2 then 5 else if 3≤o∧o≤5 then 6 else 9)
 else if k=9 then 7 else if 13≤k∧k≤16 then 8 else if 1≤k∧k≤20 then 9 else 0
def jS (k:Int):Nat:=if 1≤k∧k≤17 then 1 else if k=29 then 3 else if 21≤k∧k≤32 then 2 else 0
def bJ (k:Int) (i:Nat):Nat:=if k=8∨k=29 then 2 else if (k=28∨k=30)∧0<i then 3 else 1
def properB (s:ByteArray):Bool:=nameB s.data.toList&&!jG s.data.toList
def dH (s:ByteArray):Bool:=nameB s.data.toList
def cT (k o:Int):Bool:=if k=9 then decide (1≤o∧o≤2) else if k=10 then decide (1≤o∧o≤11) else if k=17 then decide (1≤o∧o≤7) else decide (o=0)
def bQ (k n:Int):Bool:=if k=2 then decide (n=0∨n=1) else if k=3 then decide (0≤n∧n≤4611686018427387903) else decide (n=0)
def bM (k:Int) (s:ByteArray):Bool:=
 if k=4 then decide (s.size≤256) else if k=5∨k=21∨k=22 then properB s else if k=13∨k=16∨k=23∨k=25 then dH s else decide (s.size=0)
def cR (k:Int) (ns:List ByteArray):Bool:=
 if k=7 then decide (ns.length≤40)&&ns.all dH else if k=8 then decide (ns.length≤6)&&ns.all properB else decide (ns.length=0)
def bN (k o:Int) (m c:Nat):Bool:=
 if 1≤k∧k≤6 then decide (c=0) else if k=7 then decide (c=m) else if k=8∨k=29 then decide (c≤40)
 else if k=9∨k=13∨k=21∨k=22∨k=25∨k=27∨k=31∨k=32 then decide (c=1)
 else if k=10∨k=11∨k=12∨k=14∨k=23∨k=26∨k=30 then decide (c=2)
 else if k=15∨k=16 then decide (1≤c∧c≤7) else if k=17 then decide (c=(builtT o).2) else if k=24∨k=28 then decide (c=3) else false
def kD (k o n:Int) (s:ByteArray) (ns:List ByteArray) (c:Nat):Bool:=cT k o&&(bQ k n&&(bM k s&&(cR k ns&&bN k o ns.length c)))
mutual
def rightN:Nd→Nat→Bool
 | .mk k o n s ns ks _,a=>(jS k==a)&&(kD k o n s ns ks.length&&cL ks k 0)
def cL:List Nd→Int→Nat→Bool
 | [],_,_=>true
 | x::r,k,i=>rightN x (bJ k i)&&cL r k (i+1)
end
theorem aQ (k o n:Int) (s:ByteArray) (ns:List ByteArray) (ks:List Nd) (p:Int) (a:Nat):rightN (.mk k o n s ns ks p) a=((jS k==a)&&(kD k o n s ns ks.length&&cL ks k 0)):=by rw [rightN]
theorem dB {k:Int} {a:Nat} (h:∀ i,bJ k i=a):∀ (ks:List Nd) (i:Nat),cL ks k i=!ks.any fun x=>!rightN x a
 | [],i=>by rw [cL];rfl
 | x::r,i=>by
  rw [cL,h,dB h r (i+1),List.any_cons];cases rightN x a<;>simp
theorem DB {k:Int} (h:k≠29):(jS k==3)=false:=by
 unfold jS;rw [beq_eq_false_iff_ne];grind
theorem DC {k:Int} (h:¬(1≤k∧k≤17)):(jS k==1)=false:=by
 unfold jS;rw [beq_eq_false_iff_ne];grind
theorem DD {k:Int} (h:¬(21≤k∧k≤32)∨k=29):(jS k==2)=false:=by
 unfold jS;rw [beq_eq_false_iff_ne];grind
def checkN (t:Nd):Int:=if 12<fF t then 13 else if rightN t 3 then 0 else 2
def DH (ns:List ByteArray):Bool:=ns.any fun x=>decide (100<x.size)
mutual
def dO:Nd→Bool
 | .mk _ _ _ s ns ks _=>decide (s.size≤600)&&(decide (ns.length≤60)&&(!DH ns&&tY ks))
def tY:List Nd→Bool
 | []=>true
 | x::r=>dO x&&tY r
end
theorem lC {k o n:Int} {s:ByteArray} {ns:List ByteArray} {ks:List Nd} {p:Int} (h:dO (.mk k o n s ns ks p)=true):s.size≤600∧ns.length≤60∧(∀ x∈ns,x.size≤100)∧∀ x∈ks,dO x=true:=by
 rw [dO] at h;simp only [Bool.and_eq_true,decide_eq_true_eq,Bool.not_eq_true'] at h;obtain⟨h1,h2,h3,h4⟩:=h;refine⟨h1,h2,?_,?_⟩
 ·intro x hx;unfold DH at h3;rw [List.any_eq_false] at h3;have:=h3 x hx;simp at this;omega
 ·clear h1 h2 h3;induction ks with
  | nil=>intro x hx;cases hx
  | cons y r ih=>
   rw [tY,Bool.and_eq_true] at h4;intro x hx;rcases List.mem_cons.1 hx with e | hx
   ·rw [e];exact h4.1
   ·exact ih h4.2 x hx
def iJ (k n:Int) (s:ByteArray):List UInt8:=
 if k=1 then [110,117,108,108] else if k=6 then [116,104,105,115] else if k=2 then (if n=0 then [102,97,108,115,101] else [116,114,117,101])
 else if k=3 then digs n else if k=4 then kV s.data.toList else s.data.toList
structure Tx where
 kind:Int
 rank:Int
 e:List UInt8
 s:List UInt8
 b:List UInt8
 has:Bool
def Tx.none:Tx:=⟨0,0,[],[],[],false⟩
def cB (x:Tx) (least:Int):List UInt8:=if least≤x.rank then x.e else 40::(x.e++[41])
def nD (l:List Tx):List UInt8:=l.flatMap fun x=>44::32::x.e
def jJ:List Tx→List UInt8
 | []=>[]
 | x::r=>x.e++nD r
def iT (l:List Tx):List UInt8:=40::(jJ l++[41])
def mV (s:ByteArray) (x:Tx):List UInt8:=s.data.toList++(58::32::x.e)
def gZ:List ByteArray→List Tx→List UInt8
 | s::ns,x::r=>44::32::(mV s x++gZ ns r)
 | _,_=>[]
def oZ:List ByteArray→List Tx→List UInt8
 | s::ns,x::r=>123::(mV s x++gZ ns r++[125])
 | _,_=>[123,125]
def nN:List ByteArray→List UInt8
 | []=>[]
 | s::r=>s.data.toList++r.flatMap fun x=>44::32::x.data.toList
def fI (l:List Tx):List UInt8:=l.flatMap fun x=>32::x.s
def blockT (l:List Tx):List UInt8:=123::(fI l++(if l.isEmpty then [125] else [32,125]))
def dS:List Tx→List UInt8
 | []=>[]
 | x::r=>x.s++fI r
def lD (x:Tx) (s:ByteArray):List UInt8:=cB x 8++(46::s.data.toList)
def gT (x y:Tx):List UInt8:=cB x 8++(91::(y.e++[93]))
def cZ (x:Tx):List UInt8:=32::61::32::x.e
def fH (r:Int) (sg:List UInt8) (x y:Tx):List UInt8:=cB x r++(32::(sg++(32::cB y (r+1))))
def rG (l:List Tx):Tx:=l.getD 0 Tx.none
def Bl (l:List Tx):Tx:=l.getD 1 Tx.none
def MP (l:List Tx):Tx:=l.getD 2 Tx.none
def exprT (k o n:Int) (s:ByteArray) (ns:List ByteArray) (l:List Tx):List UInt8:=
 if k=7 then oZ ns l
 else if k=8 then [102,110,40]++(nN ns++([41,32]++blockT l))
 else if k=9 then (if o=1 then 45 else 33)::cB (rG l) 7
 else if k=10 then fH (rankT 10 o) (signT o) (rG l) (Bl l)
 else if k=11 then fH 2 [38,38] (rG l) (Bl l)
 else if k=12 then fH 1 [124,124] (rG l) (Bl l)
 else if k=13 then lD (rG l) s
 else if k=14 then gT (rG l) (Bl l)
 else if k=15 then cB (rG l) (if (rG l).kind=13 then 9 else 8)++iT l.tail
 else if k=16 then lD (rG l) s++iT l.tail
 else if k=17 then (builtT o).1++iT l
 else iJ k n s
def At (k:Int) (s:ByteArray) (l:List Tx):List UInt8:=
 if k=21 then [108,101,116,32]++(s.data.toList++cZ (rG l))
 else if k=22 then s.data.toList++cZ (rG l)
 else if k=23 then lD (rG l) s++cZ (Bl l)
 else if k=24 then gT (rG l) (Bl l)++cZ (MP l)
 else if k=25 then [100,101,108,101,116,101,32]++lD (rG l) s
 else if k=26 then [100,101,108,101,116,101,32]++gT (rG l) (Bl l)
 else if k=27 then [112,114,105,110,116,32]++(rG l).e
 else if k=31 then [114,101,116,117,114,110,32]++(rG l).e
 else if k=32 then (rG l).e else []
def dN (key:List UInt8) (x y:Tx):List UInt8:=key++([32,40]++(x.e++([41,32]++y.b)))
def stmtT (k:Int) (s:ByteArray) (l:List Tx):List UInt8:=
 if k=28 then dN [105,102] (rG l) (Bl l)++(if (MP l).has then [32,101,108,115,101,32]++(MP l).b else [])
 else if k=30 then dN [119,104,105,108,101] (rG l) (Bl l)
 else At k s l++[59]
mutual
def textN:Nd→Tx
 | .mk k o n s ns ks _=>⟨k,rankT k o,exprT k o n s ns (Au ks),stmtT k s (Au ks),blockT (Au ks),!ks.isEmpty⟩
def Au:List Nd→List Tx
 | []=>[]
 | x::r=>textN x::Au r
end
theorem BW:∀ l:List Nd,Au l=l.map textN
 | []=>by rw [Au];rfl
 | x::r=>by rw [Au,BW r];rfl
theorem mC (k o n:Int) (s:ByteArray) (ns:List ByteArray) (ks:List Nd) (p:Int) :
  textN (.mk k o n s ns ks p)=⟨k,rankT k o,exprT k o n s ns (ks.map textN),stmtT k s (ks.map textN),blockT (ks.map textN),!ks.isEmpty⟩:=by
 rw [textN,BW]
def lL (t:Nd):List UInt8:=dS (t.kids.map textN)
def sE (t:Nd):List UInt8×Int:=if checkN t≠0 then ([],checkN t) else if 2000<(lL t).length then ([],3) else (lL t,0)
def WroteT (l t l':List UInt8):Prop:=l'.length≤l.length+t.length∧((l.length+t.length≤2000∧l'=l++t)∨(2000<l.length+t.length∧2000<l'.length))
theorem WroteT.all (l t:List UInt8):WroteT l t (l++t):=by
 refine⟨by simp,?_⟩;rcases Nat.lt_or_ge 2000 (l.length+t.length) with h | h
 ·exact .inr ⟨h,by simpa using h⟩
 ·exact .inl ⟨h,rfl⟩
theorem WroteT.none {l:List UInt8} (h:2000<l.length) (t:List UInt8):WroteT l t l:=⟨by omega,.inr ⟨by omega,h⟩⟩
theorem WroteT.nil (l:List UInt8):WroteT l [] l:=by simpa using WroteT.all l []
theorem WroteT.trans {l t l' u l'':List UInt8} (h:WroteT l t l') (k:WroteT l' u l''):WroteT l (t++u) l'':=by
 obtain⟨h1,h2⟩:=h;obtain⟨k1,k2⟩:=k;refine⟨by simp;omega,?_⟩;rcases h2 with ⟨h2,e⟩ | ⟨h2,h3⟩
 ·subst e;rcases k2 with ⟨k2,e⟩ | ⟨k2,k3⟩
  ·exact .inl ⟨by simp at k2 ⊢;omega,by rw [e];simp⟩
  ·exact .inr ⟨by simp at k2 ⊢;omega,k3⟩
 ·rcases k2 with ⟨k2,e⟩ | ⟨k2,k3⟩
  ·omega
  ·exact .inr ⟨by simp;omega,k3⟩
theorem WroteT.of {l t l' u:List UInt8} (h:WroteT l t l') (e:t=u):WroteT l u l':=e▸h
end Go.Proofs.YtdnnmjhfidimcaaGreatDoor
