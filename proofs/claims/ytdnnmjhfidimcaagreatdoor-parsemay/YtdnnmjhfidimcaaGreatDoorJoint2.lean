/- What all our texts stand on: hidden facts, and chains of calls that leave old memory alone. Nodes as plain data, and what the document says of them as plain functions. Which nodes are right, as a plain function. Whether a tree has few nodes, not too high, with short texts. A node as it is written, as a plain function. -/
import Derived.WalkKit
import Derived.WalkLawsBesides
import Derived.WalkSpells
import Derived.Outline
import Derived.Below
import Derived.Test.YtdnnmjhfidimcaaGreatDoorJoint1
namespace Go.Proofs.YtdnnmjhfidimcaaGreatDoor
open Go.RowKit

theorem hid {p:Prop} (h:p):Hid p:=h

theorem Dza {a b c:World} (h:Below a.heap.size a b) (k:Below b.heap.size b c):Below a.heap.size a c:=h.trans (k.mono h.size)
theorem gza {B:Nat} {a b c:World} (h:Below B a b) (hB:B≤a.heap.size) (k:Below b.heap.size b c):Below B a c:=h.trans (k.mono (Nat.le_trans hB h.size))

end Go.Proofs.YtdnnmjhfidimcaaGreatDoor

namespace Go.Proofs.YtdnnmjhfidimcaaGreatDoor
open Go.RowKit

inductive Nd where
 | mk (kind op num:Int) (str:ByteArray) (names:List ByteArray) (kids:List Nd) (pl:Int):Nd

def Nd.kind:Nd→Int | .mk k _ _ _ _ _ _=>k
def Nd.op:Nd→Int | .mk _ o _ _ _ _ _=>o
def Nd.num:Nd→Int | .mk _ _ n _ _ _ _=>n
def Nd.str:Nd→ByteArray | .mk _ _ _ s _ _ _=>s
def Nd.names:Nd→List ByteArray | .mk _ _ _ _ ns _ _=>ns
def Nd.kids:Nd→List Nd | .mk _ _ _ _ _ ks _=>ks
def Nd.pl:Nd→Int | .mk _ _ _ _ _ _ p=>p

mutual
theorem Nd.ind {P:Nd→Prop} (h:∀ k o n s ns ks p,(∀ x∈ks,P x)→P (.mk k o n s ns ks p)):∀ t,P t
 | .mk k o n s ns ks p=>h k o n s ns ks p (Nd.indL h ks)
theorem Nd.indL {P:Nd→Prop} (h:∀ k o n s ns ks p,(∀ x∈ks,P x)→P (.mk k o n s ns ks p)):∀ (ks:List Nd) (x:Nd),x∈ks→P x
 | [],x,hx=>by cases hx
 | k::ks,x,hx=>by
  rcases List.mem_cons.1 hx with e | hx
  ·rw [e];exact Nd.ind h k
  ·exact Nd.indL h ks x hx
end

/-! how high, and how many -/
mutual
def Dzc:Nd→Nat
 | .mk _ _ _ _ _ ks _=>uzd ks+1
def uzd:List Nd→Nat
 | []=>0
 | k::ks=>max (Dzc k) (uzd ks)
end
mutual
def Kza:Nd→Nat
 | .mk _ _ _ _ _ ks _=>Vza ks+1
def Vza:List Nd→Nat
 | []=>0
 | k::ks=>Kza k+Vza ks
end

theorem Qzq (l:List Nd) (x:Nd):uzd (l++[x])=max (uzd l) (Dzc x):=by
 induction l with
 | nil=>simp [uzd]
 | cons k ks ih=>simp only [List.cons_append,uzd,ih];omega
theorem Szg (l:List Nd) (x:Nd):Vza (l++[x])=Vza l+Kza x:=by
 induction l with
 | nil=>simp [Vza]
 | cons k ks ih=>simp only [List.cons_append,Vza,ih];omega
theorem Rzq (t:Nd):1≤Kza t:=by cases t;simp [Kza]
theorem Yzt (t:Nd):1≤Dzc t:=by cases t;simp [Dzc]
theorem Yzd {x:Nd} : ∀ {l:List Nd},x∈l→Kza x≤Vza l
 | k::ks,h=>by
  rcases List.mem_cons.1 h with e | h
  ·rw [e];simp [Vza]
  ·have:=Yzd h;simp [Vza];omega
theorem Uzb:∀ l:List Nd,l.length≤Vza l
 | []=>Nat.le_refl _
 | k::ks=>by have:=Uzb ks;have:=Rzq k;simp [Vza];omega
theorem Vzm (t:Nd):Dzc t≤Kza t:=by
 refine Nd.ind (P:=fun t=>Dzc t≤Kza t) ?_ t;intro k o n s ns ks p ih;simp only [Dzc,Kza];have:uzd ks≤Vza ks:=by
  clear k o n s ns p;induction ks with
  | nil=>simp [uzd]
  | cons x xs ih2=>
   have h1:=ih x (by simp);have h2:=ih2 (fun y hy=>ih y (by simp [hy]));simp [uzd,Vza];omega
 omega

theorem Pzk:∀ l:List Nd,uzd l≤Vza l
 | []=>Nat.le_refl _
 | k::ks=>by have:=Pzk ks;have:=Vzm k;simp [uzd,Vza];omega
theorem fzo (l m:List Nd):uzd (l++m)=max (uzd l) (uzd m):=by
 induction l with
 | nil=>simp [uzd]
 | cons k ks ih=>simp only [List.cons_append,uzd,ih];omega
theorem Jzl (l:List Nd) (i:Nat):uzd (l.take i)≤uzd l:=by
 have:uzd (l.take i++l.drop i)=max (uzd (l.take i)) (uzd (l.drop i)):=fzo _ _;rw [List.take_append_drop] at this;omega

/-! whether two are alike -/
def namesB (ns ns':List ByteArray):Bool:=ns.map (·.data.toList)==ns'.map (·.data.toList)
def alikeB (k o n:Int) (s:ByteArray) (ns:List ByteArray) (c:Nat) (k' o' n':Int) (s':ByteArray) (ns':List ByteArray) (c':Nat):Bool:=
 (k==k')&&((o==o')&&((n==n')&&((s.data.toList==s'.data.toList)&&(namesB ns ns'&&(c==c')))))
mutual
def sameN:Nd→Nd→Bool
 | .mk k o n s ns ks _,.mk k' o' n' s' ns' ks' _=>(k==k')&&((o==o')&&((n==n')&&((s.data.toList==s'.data.toList)&&(namesB ns ns'&&Pze ks ks'))))
def Pze:List Nd→List Nd→Bool
 | [],[]=>true
 | a::as',b::bs=>sameN a b&&Pze as' bs
 | _,_=>false
end

theorem uzh:∀ (l m:List Nd),Pze l m=true→l.length=m.length
 | [],[],_=>rfl
 | a::l,b::m,h=>by
  rw [Pze,Bool.and_eq_true] at h;have:=uzh l m h.2;simp [this]
 | [],b::m,h=>by simp [Pze] at h
 | a::l,[],h=>by simp [Pze] at h
theorem pzn:∀ (l m:List Nd),l.length=m.length→(∀ (i:Nat) (h:i<l.length) (h':i<m.length),sameN l[i] m[i]=true)→Pze l m=true
 | [],[],_,_=>by rw [Pze]
 | a::l,b::m,hl,h=>by
  rw [Pze,Bool.and_eq_true];exact⟨h 0 (by simp) (by simp),pzn l m (by simpa using hl) (fun i h1 h2=>h (i+1) (by simpa using h1) (by simpa using h2))⟩
theorem qzn:∀ (l m:List Nd) (i:Nat) (h:i<l.length) (h':i<m.length),sameN l[i] m[i]=false→Pze l m=false
 | a::l,b::m,0,_,_,h=>by rw [Pze,Bool.and_eq_false_iff];exact .inl h
 | a::l,b::m,i+1,h1,h2,h=>by
  rw [Pze,Bool.and_eq_false_iff];exact .inr (qzn l m i (by simpa using h1) (by simpa using h2) h)
theorem kzp (l m:List Nd) (h:l.length≠m.length):Pze l m=false:=by
 cases hq:Pze l m with
 | false=>rfl
 | true=>exact absurd (uzh l m hq) h
theorem Wzv (k o n:Int) (s:ByteArray) (ns:List ByteArray) (ks:List Nd) (p k' o' n':Int) (s':ByteArray) (ns':List ByteArray) (ks':List Nd) (p':Int) :
  sameN (.mk k o n s ns ks p) (.mk k' o' n' s' ns' ks' p')=(alikeB k o n s ns ks.length k' o' n' s' ns' ks'.length&&Pze ks ks'):=by
 rw [sameN];unfold alikeB;cases hq:Pze ks ks' with
 | false=>simp
 | true=>simp [uzh _ _ hq]

theorem lzp {l m:List ByteArray} (h:l.length≠m.length):namesB l m=false:=by
 unfold namesB;rw [beq_eq_false_iff_ne];intro e;exact h (by simpa using congrArg List.length e)
theorem Zzt {l m:List ByteArray} (hl:l.length=m.length) (h:∀ (i:Nat) (h:i<l.length) (h':i<m.length),l[i].data.toList=m[i].data.toList):namesB l m=true:=by
 unfold namesB;rw [beq_iff_eq];refine List.ext_getElem (by simpa using hl) ?_;intro i h1 h2;simpa using h i (by simpa using h1) (by simpa using h2)
theorem azu {l m:List ByteArray} {i:Nat} (h:i<l.length) (h':i<m.length) (hn:l[i].data.toList≠m[i].data.toList):namesB l m=false:=by
 unfold namesB;rw [beq_eq_false_iff_ne];intro e;have:(l.map (·.data.toList))[i]? = (m.map (·.data.toList))[i]?:=by rw [e]
 rw [List.getElem?_eq_getElem (by simpa using h),List.getElem?_eq_getElem (by simpa using h')] at this;exact hn (by simpa using this)

end Go.Proofs.YtdnnmjhfidimcaaGreatDoor

namespace Go.Proofs.YtdnnmjhfidimcaaGreatDoor
open Go.RowKit

def tsgnL:List (List UInt8):=[[],[43],[45],[42],[47],[37],[60],[60,61],[62],[62,61],[61,61],[33,61]]
def signT (o:Int):List UInt8:=if o<0 then [] else tsgnL.getD o.toNat []
def builtL:List (List UInt8×Nat):=[([],0),([99,111,117,110,116],1),([107,101,121],2),([104,97,115],2),([112,114,111,116,111],1),([115,101,116,112,114,111,116,111],2),([108,101,110],1),([115,116,114],1)]
def builtT (o:Int):List UInt8×Nat:=if o<0 then ([],0) else builtL.getD o.toNat ([],0)
def rankT (k o:Int):Int:=
 if k=12 then 1 else if k=11 then 2 else if k=10 then (if o=10∨o=11 then 3 else if 6≤o∧o≤9 then 4 else if o=1∨o=2 then 5 else if 3≤o∧o≤5 then 6 else 9)
 else if k=9 then 7 else if 13≤k∧k≤16 then 8 else if 1≤k∧k≤20 then 9 else 0

def isK (k:Int):Nat:=if 1≤k∧k≤17 then 1 else if k=29 then 3 else if 21≤k∧k≤32 then 2 else 0
def Mza (k:Int) (i:Nat):Nat:=if k=8∨k=29 then 2 else if (k=28∨k=30)∧0<i then 3 else 1

def properB (s:ByteArray):Bool:=nameB s.data.toList&&!eze s.data.toList
def Izb (s:ByteArray):Bool:=nameB s.data.toList
def wzb (k o:Int):Bool:=if k=9 then decide (1≤o∧o≤2) else if k=10 then decide (1≤o∧o≤11) else if k=17 then decide (1≤o∧o≤7) else decide (o=0)
def Rza (k n:Int):Bool:=if k=2 then decide (n=0∨n=1) else if k=3 then decide (0≤n∧n≤4611686018427387903) else decide (n=0)
def Nza (k:Int) (s:ByteArray):Bool:=
 if k=4 then decide (s.size≤256) else if k=5∨k=21∨k=22 then properB s else if k=13∨k=16∨k=23∨k=25 then Izb s else decide (s.size=0)
def uzb (k:Int) (ns:List ByteArray):Bool:=
 if k=7 then decide (ns.length≤40)&&ns.all Izb else if k=8 then decide (ns.length≤6)&&ns.all properB else decide (ns.length=0)
def Oza (k o:Int) (m c:Nat):Bool:=
 if 1≤k∧k≤6 then decide (c=0) else if k=7 then decide (c=m) else if k=8∨k=29 then decide (c≤40)
 else if k=9∨k=13∨k=21∨k=22∨k=25∨k=27∨k=31∨k=32 then decide (c=1)
 else if k=10∨k=11∨k=12∨k=14∨k=23∨k=26∨k=30 then decide (c=2)
 else if k=15∨k=16 then decide (1≤c∧c≤7) else if k=17 then decide (c=(builtT o).2) else if k=24∨k=28 then decide (c=3) else false
def okB (k o n:Int) (s:ByteArray) (ns:List ByteArray) (c:Nat):Bool:=wzb k o&&(Rza k n&&(Nza k s&&(uzb k ns&&Oza k o ns.length c)))

mutual
def rightN:Nd→Nat→Bool
 | .mk k o n s ns ks _,a=>(isK k==a)&&(okB k o n s ns ks.length&&nzb ks k 0)
def nzb:List Nd→Int→Nat→Bool
 | [],_,_=>true
 | x::r,k,i=>rightN x (Mza k i)&&nzb r k (i+1)
end
theorem qza (k o n:Int) (s:ByteArray) (ns:List ByteArray) (ks:List Nd) (p:Int) (a:Nat):rightN (.mk k o n s ns ks p) a=((isK k==a)&&(okB k o n s ns ks.length&&nzb ks k 0)):=by rw [rightN]

theorem Czb {k:Int} {a:Nat} (h:∀ i,Mza k i=a):∀ (ks:List Nd) (i:Nat),nzb ks k i=!ks.any fun x=>!rightN x a
 | [],i=>by rw [nzb];rfl
 | x::r,i=>by
  rw [nzb,h,Czb h r (i+1),List.any_cons];cases rightN x a<;>simp

theorem mzp {k:Int} (h:k≠29):(isK k==3)=false:=by
 unfold isK;rw [beq_eq_false_iff_ne];grind
theorem nzp {k:Int} (h:¬(1≤k∧k≤17)):(isK k==1)=false:=by
 unfold isK;rw [beq_eq_false_iff_ne];grind
theorem ozp {k:Int} (h:¬(21≤k∧k≤32)∨k=29):(isK k==2)=false:=by
 unfold isK;rw [beq_eq_false_iff_ne];grind

def checkN (t:Nd):Int:=if 12<Dzc t then 13 else if rightN t 3 then 0 else 2

end Go.Proofs.YtdnnmjhfidimcaaGreatDoor

namespace Go.Proofs.YtdnnmjhfidimcaaGreatDoor
open Go.RowKit

def szp (ns:List ByteArray):Bool:=ns.any fun x=>decide (100<x.size)
mutual
def Ozb:Nd→Bool
 | .mk _ _ _ s ns ks _=>decide (s.size≤600)&&(decide (ns.length≤60)&&(!szp ns&&kzj ks))
def kzj:List Nd→Bool
 | []=>true
 | x::r=>Ozb x&&kzj r
end
theorem Yze {k o n:Int} {s:ByteArray} {ns:List ByteArray} {ks:List Nd} {p:Int} (h:Ozb (.mk k o n s ns ks p)=true):s.size≤600∧ns.length≤60∧(∀ x∈ns,x.size≤100)∧∀ x∈ks,Ozb x=true:=by
 rw [Ozb] at h;simp only [Bool.and_eq_true,decide_eq_true_eq,Bool.not_eq_true'] at h;obtain⟨h1,h2,h3,h4⟩:=h;refine⟨h1,h2,?_,?_⟩
 ·intro x hx;unfold szp at h3;rw [List.any_eq_false] at h3;have:=h3 x hx;simp at this;omega
 ·clear h1 h2 h3;induction ks with
  | nil=>intro x hx;cases hx
  | cons y r ih=>
   rw [kzj,Bool.and_eq_true] at h4;intro x hx;rcases List.mem_cons.1 hx with e | hx
   ·rw [e];exact h4.1
   ·exact ih h4.2 x hx

end Go.Proofs.YtdnnmjhfidimcaaGreatDoor

namespace Go.Proofs.YtdnnmjhfidimcaaGreatDoor
open Go.RowKit

def Izd (k n:Int) (s:ByteArray):List UInt8:=
 if k=1 then [110,117,108,108] else if k=6 then [116,104,105,115] else if k=2 then (if n=0 then [102,97,108,115,101] else [116,114,117,101])
 else if k=3 then digs n else if k=4 then Rze s.data.toList else s.data.toList

structure Tx where
 kind:Int
 rank:Int
 e:List UInt8
 s:List UInt8
 b:List UInt8
 has:Bool
def Tx.none:Tx:=⟨0,0,[],[],[],false⟩

def bzb (x:Tx) (least:Int):List UInt8:=if least≤x.rank then x.e else 40::(x.e++[41])
def Xzf (l:List Tx):List UInt8:=l.flatMap fun x=>44::32::x.e
def hze:List Tx→List UInt8
 | []=>[]
 | x::r=>x.e++Xzf r
def Szd (l:List Tx):List UInt8:=40::(hze l++[41])
def Pzf (s:ByteArray) (x:Tx):List UInt8:=s.data.toList++(58::32::x.e)
def tzd:List ByteArray→List Tx→List UInt8
 | s::ns,x::r=>44::32::(Pzf s x++tzd ns r)
 | _,_=>[]
def Qzg:List ByteArray→List Tx→List UInt8
 | s::ns,x::r=>123::(Pzf s x++tzd ns r++[125])
 | _,_=>[123,125]
def gzg:List ByteArray→List UInt8
 | []=>[]
 | s::r=>s.data.toList++r.flatMap fun x=>44::32::x.data.toList
def Gzc (l:List Tx):List UInt8:=l.flatMap fun x=>32::x.s
def blockT (l:List Tx):List UInt8:=123::(Gzc l++(if l.isEmpty then [125] else [32,125]))
def Rzb:List Tx→List UInt8
 | []=>[]
 | x::r=>x.s++Gzc r
def Pzd (x:Tx) (s:ByteArray):List UInt8:=bzb x 8++(46::s.data.toList)
def izc (x y:Tx):List UInt8:=bzb x 8++(91::(y.e++[93]))
def Eza (x:Tx):List UInt8:=32::61::32::x.e
def Fzc (r:Int) (sg:List UInt8) (x y:Tx):List UInt8:=bzb x r++(32::(sg++(32::bzb y (r+1))))
def at0 (l:List Tx):Tx:=l.getD 0 Tx.none
def at1 (l:List Tx):Tx:=l.getD 1 Tx.none
def at2 (l:List Tx):Tx:=l.getD 2 Tx.none

def exprT (k o n:Int) (s:ByteArray) (ns:List ByteArray) (l:List Tx):List UInt8:=
 if k=7 then Qzg ns l
 else if k=8 then [102,110,40]++(gzg ns++([41,32]++blockT l))
 else if k=9 then (if o=1 then 45 else 33)::bzb (at0 l) 7
 else if k=10 then Fzc (rankT 10 o) (signT o) (at0 l) (at1 l)
 else if k=11 then Fzc 2 [38,38] (at0 l) (at1 l)
 else if k=12 then Fzc 1 [124,124] (at0 l) (at1 l)
 else if k=13 then Pzd (at0 l) s
 else if k=14 then izc (at0 l) (at1 l)
 else if k=15 then bzb (at0 l) (if (at0 l).kind=13 then 9 else 8)++Szd l.tail
 else if k=16 then Pzd (at0 l) s++Szd l.tail
 else if k=17 then (builtT o).1++Szd l
 else Izd k n s
def uzm (k:Int) (s:ByteArray) (l:List Tx):List UInt8:=
 if k=21 then [108,101,116,32]++(s.data.toList++Eza (at0 l))
 else if k=22 then s.data.toList++Eza (at0 l)
 else if k=23 then Pzd (at0 l) s++Eza (at1 l)
 else if k=24 then izc (at0 l) (at1 l)++Eza (at2 l)
 else if k=25 then [100,101,108,101,116,101,32]++Pzd (at0 l) s
 else if k=26 then [100,101,108,101,116,101,32]++izc (at0 l) (at1 l)
 else if k=27 then [112,114,105,110,116,32]++(at0 l).e
 else if k=31 then [114,101,116,117,114,110,32]++(at0 l).e
 else if k=32 then (at0 l).e else []
def Nzb (key:List UInt8) (x y:Tx):List UInt8:=key++([32,40]++(x.e++([41,32]++y.b)))
def stmtT (k:Int) (s:ByteArray) (l:List Tx):List UInt8:=
 if k=28 then Nzb [105,102] (at0 l) (at1 l)++(if (at2 l).has then [32,101,108,115,101,32]++(at2 l).b else [])
 else if k=30 then Nzb [119,104,105,108,101] (at0 l) (at1 l)
 else uzm k s l++[59]

mutual
def textN:Nd→Tx
 | .mk k o n s ns ks _=>⟨k,rankT k o,exprT k o n s ns (vzm ks),stmtT k s (vzm ks),blockT (vzm ks),!ks.isEmpty⟩
def vzm:List Nd→List Tx
 | []=>[]
 | x::r=>textN x::vzm r
end
theorem Lzn:∀ l:List Nd,vzm l=l.map textN
 | []=>by rw [vzm];rfl
 | x::r=>by rw [vzm,Lzn r];rfl
theorem xzf (k o n:Int) (s:ByteArray) (ns:List ByteArray) (ks:List Nd) (p:Int) :
  textN (.mk k o n s ns ks p)=⟨k,rankT k o,exprT k o n s ns (ks.map textN),stmtT k s (ks.map textN),blockT (ks.map textN),!ks.isEmpty⟩:=by
 rw [textN,Lzn]

def gzf (t:Nd):List UInt8:=Rzb (t.kids.map textN)
def szi (t:Nd):List UInt8×Int:=if checkN t≠0 then ([],checkN t) else if 2000<(gzf t).length then ([],3) else (gzf t,0)

def WroteT (l t l':List UInt8):Prop:=l'.length≤l.length+t.length∧((l.length+t.length≤2000∧l'=l++t)∨(2000<l.length+t.length∧2000<l'.length))
theorem WroteT.all (l t:List UInt8):WroteT l t (l++t):=by
 refine⟨by simp,?_⟩;rcases Nat.lt_or_ge 2000 (l.length+t.length) with h | h
 ·exact .inr ⟨h,by simpa using h⟩
 ·exact .inl ⟨h,rfl⟩
theorem WroteT.none {l:List UInt8} (h:2000<l.length) (t:List UInt8):WroteT l t l:=⟨by omega,.inr ⟨by omega,h⟩⟩
theorem WroteT.nil (l:List UInt8):WroteT l [] l:=by simpa using WroteT.all l []
theorem WroteT.trans {l t l' u l'':List UInt8} (h:WroteT l t l') (k:WroteT l' u l''):WroteT l (t++u) l'':=by
 obtain⟨h1,h2⟩:=h;obtain⟨k1,k2⟩:=k;refine⟨by simp;omega,?_⟩;rcases h2 with ⟨h2,e⟩ | ⟨h2,h3⟩
 ·subst e;rcases k2 with ⟨k2,e⟩ | ⟨k2,k3⟩
  ·exact .inl ⟨by simp at k2 ⊢;omega,by rw [e];simp⟩
  ·exact .inr ⟨by simp at k2 ⊢;omega,k3⟩
 ·rcases k2 with ⟨k2,e⟩ | ⟨k2,k3⟩
  ·omega
  ·exact .inr ⟨by simp;omega,k3⟩
theorem WroteT.of {l t l' u:List UInt8} (h:WroteT l t l') (e:t=u):WroteT l u l':=e▸h

end Go.Proofs.YtdnnmjhfidimcaaGreatDoor
