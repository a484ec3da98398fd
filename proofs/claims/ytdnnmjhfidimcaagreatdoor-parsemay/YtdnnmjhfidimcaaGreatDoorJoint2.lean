/- What all our texts stand on: hidden facts, and chains of calls that leave old memory alone. Nodes as plain data, and what the document says of them as plain functions. Whether a tree has few nodes, not too high, with short texts. One step of reading tokens. Tokens that may be come back from their text. A token that is read may be. -/
import Derived.WalkKit
import Derived.WalkLawsBesides
import Derived.WalkSpells
import Derived.Outline
import Derived.Below
import Derived.Test.YtdnnmjhfidimcaaGreatDoorJoint1
namespace Go.Proofs.YtdnnmjhfidimcaaGreatDoor
open Go.RowKit
theorem aA {p:Prop} (h:p):Hid p:=h
theorem bB {a b c:World} (h:Below a.heap.size a b) (k:Below b.heap.size b c):Below a.heap.size a c:=h.trans (k.mono h.size)
theorem aH {B:Nat} {a b c:World} (h:Below B a b) (hB:B≤a.heap.size) (k:Below b.heap.size b c):Below B a c:=h.trans (k.mono (Nat.le_trans hB h.size))
inductive Nd where
 | mk (kind op num:Int) (str:ByteArray) (names:List ByteArray) (kids:List Nd) (pl:Int):Nd
def Nd.kind:Nd→Int | .mk k _ _ _ _ _ _=>k
def Nd.op:Nd→Int | .mk _ o _ _ _ _ _=>o
def Nd.num:Nd→Int | .mk _ _ n _ _ _ _=>n
def Nd.str:Nd→ByteArray | .mk _ _ _ s _ _ _=>s
def Nd.names:Nd→List ByteArray | .mk _ _ _ _ ns _ _=>ns
def Nd.kids:Nd→List Nd | .mk _ _ _ _ _ ks _=>ks
def Nd.pl:Nd→Int | .mk _ _ _ _ _ _ p=>p
mutual
theorem Nd.ind {P:Nd→Prop} (h:∀ k o n s ns ks p,(∀ x∈ks,P x)→P (.mk k o n s ns ks p)):∀ t,P t
 | .mk k o n s ns ks p=>h k o n s ns ks p (Nd.indL h ks)
theorem Nd.indL {P:Nd→Prop} (h:∀ k o n s ns ks p,(∀ x∈ks,P x)→P (.mk k o n s ns ks p)):∀ (ks:List Nd) (x:Nd),x∈ks→P x
 | [],x,hx=>by cases hx
 | k::ks,x,hx=>by
  rcases List.mem_cons.1 hx with e | hx
  ·rw [e];exact Nd.ind h k
  ·exact Nd.indL h ks x hx
end
/-! how high, and how many -/
mutual
def fF:Nd→Nat
 | .mk _ _ _ _ _ ks _=>hD ks+1
def hD:List Nd→Nat
 | []=>0
 | k::ks=>max (fF k) (hD ks)
end
mutual
def bH:Nd→Nat
 | .mk _ _ _ _ _ ks _=>bU ks+1
def bU:List Nd→Nat
 | []=>0
 | k::ks=>bH k+bU ks
end
theorem Fj (l:List Nd) (x:Nd):hD (l++[x])=max (hD l) (fF x):=by
 induction l with
 | nil=>simp [hD]
 | cons k ks ih=>simp only [List.cons_append,hD,ih];omega
theorem pB (l:List Nd) (x:Nd):bU (l++[x])=bU l+bH x:=by
 induction l with
 | nil=>simp [bU]
 | cons k ks ih=>simp only [List.cons_append,bU,ih];omega
theorem Fk (t:Nd):1≤bH t:=by cases t;simp [bH]
theorem Jx (t:Nd):1≤fF t:=by cases t;simp [fF]
theorem jA {x:Nd} : ∀ {l:List Nd},x∈l→bH x≤bU l
 | k::ks,h=>by
  rcases List.mem_cons.1 h with e | h
  ·rw [e];simp [bU]
  ·have:=jA h;simp [bU];omega
theorem dW:∀ l:List Nd,l.length≤bU l
 | []=>Nat.le_refl _
 | k::ks=>by have:=dW ks;have:=Fk k;simp [bU];omega
theorem Bb (t:Nd):fF t≤bH t:=by
 refine Nd.ind (P:=fun t=>fF t≤bH t) ?_ t;intro k o n s ns ks p ih;simp only [fF,bH];have:hD ks≤bU ks:=by
  clear k o n s ns p;induction ks with
  | nil=>simp [hD]
  | cons x xs ih2=>
   have h1:=ih x (by simp);have h2:=ih2 (fun y hy=>ih y (by simp [hy]));simp [hD,bU];omega
 omega
theorem xF:∀ l:List Nd,hD l≤bU l
 | []=>Nat.le_refl _
 | k::ks=>by have:=xF ks;have:=Bb k;simp [hD,bU];omega
theorem Cr (l m:List Nd):hD (l++m)=max (hD l) (hD m):=by
 induction l with
 | nil=>simp [hD]
 | cons k ks ih=>simp only [List.cons_append,hD,ih];omega
theorem zA (l:List Nd) (i:Nat):hD (l.take i)≤hD l:=by
 have:hD (l.take i++l.drop i)=max (hD (l.take i)) (hD (l.drop i)):=Cr _ _;rw [List.take_append_drop] at this;omega
/-! whether two are alike -/
def namesB (ns ns':List ByteArray):Bool:=ns.map (·.data.toList)==ns'.map (·.data.toList)
def alikeB (k o n:Int) (s:ByteArray) (ns:List ByteArray) (c:Nat) (k' o' n':Int) (s':ByteArray) (ns':List ByteArray) (c':Nat):Bool:=
 (k==k')&&((o==o')&&((n==n')&&((s.data.toList==s'.data.toList)&&(namesB ns ns'&&(c==c')))))
mutual
def sameN:Nd→Nd→Bool
 | .mk k o n s ns ks _,.mk k' o' n' s' ns' ks' _=>(k==k')&&((o==o')&&((n==n')&&((s.data.toList==s'.data.toList)&&(namesB ns ns'&&kT ks ks'))))
def kT:List Nd→List Nd→Bool
 | [],[]=>true
 | a::as',b::bs=>sameN a b&&kT as' bs
 | _,_=>false
end
theorem qD:∀ (l m:List Nd),kT l m=true→l.length=m.length
 | [],[],_=>rfl
 | a::l,b::m,h=>by
  rw [kT,Bool.and_eq_true] at h;have:=qD l m h.2;simp [this]
 | [],b::m,h=>by simp [kT] at h
 | a::l,[],h=>by simp [kT] at h
theorem Bw:∀ (l m:List Nd),l.length=m.length→(∀ (i:Nat) (h:i<l.length) (h':i<m.length),sameN l[i] m[i]=true)→kT l m=true
 | [],[],_,_=>by rw [kT]
 | a::l,b::m,hl,h=>by
  rw [kT,Bool.and_eq_true];exact⟨h 0 (by simp) (by simp),Bw l m (by simpa using hl) (fun i h1 h2=>h (i+1) (by simpa using h1) (by simpa using h2))⟩
theorem Bx:∀ (l m:List Nd) (i:Nat) (h:i<l.length) (h':i<m.length),sameN l[i] m[i]=false→kT l m=false
 | a::l,b::m,0,_,_,h=>by rw [kT,Bool.and_eq_false_iff];exact .inl h
 | a::l,b::m,i+1,h1,h2,h=>by
  rw [kT,Bool.and_eq_false_iff];exact .inr (Bx l m i (by simpa using h1) (by simpa using h2) h)
theorem Dz (l m:List Nd) (h:l.length≠m.length):kT l m=false:=by
 cases hq:kT l m with
 | false=>rfl
 | true=>exact absurd (qD l m hq) h
theorem LD (k o n:Int) (s:ByteArray) (ns:List ByteArray) (ks:List Nd) (p k' o' n':Int) (s':ByteArray) (ns':List ByteArray) (ks':List Nd) (p':Int) :
  sameN (.mk k o n s ns ks p) (.mk k' o' n' s' ns' ks' p')=(alikeB k o n s ns ks.length k' o' n' s' ns' ks'.length&&kT ks ks'):=by
 rw [sameN];unfold alikeB;cases hq:kT ks ks' with
 | false=>simp
 | true=>simp [qD _ _ hq]
theorem DA {l m:List ByteArray} (h:l.length≠m.length):namesB l m=false:=by
 unfold namesB;rw [beq_eq_false_iff_ne];intro e;exact h (by simpa using congrArg List.length e)
theorem Jy {l m:List ByteArray} (hl:l.length=m.length) (h:∀ (i:Nat) (h:i<l.length) (h':i<m.length),l[i].data.toList=m[i].data.toList):namesB l m=true:=by
 unfold namesB;rw [beq_iff_eq];refine List.ext_getElem (by simpa using hl) ?_;intro i h1 h2;simpa using h i (by simpa using h1) (by simpa using h2)
theorem Jz {l m:List ByteArray} {i:Nat} (h:i<l.length) (h':i<m.length) (hn:l[i].data.toList≠m[i].data.toList):namesB l m=false:=by
 unfold namesB;rw [beq_eq_false_iff_ne];intro e;have:(l.map (·.data.toList))[i]? = (m.map (·.data.toList))[i]?:=by rw [e]
 rw [List.getElem?_eq_getElem (by simpa using h),List.getElem?_eq_getElem (by simpa using h')] at this;exact hn (by simpa using this)
def DH (ns:List ByteArray):Bool:=ns.any fun x=>decide (100<x.size)
mutual
def dO:Nd→Bool
 | .mk _ _ _ s ns ks _=>decide (s.size≤600)&&(decide (ns.length≤60)&&(!DH ns&&tY ks))
def tY:List Nd→Bool
 | []=>true
 | x::r=>dO x&&tY r
end
theorem lC {k o n:Int} {s:ByteArray} {ns:List ByteArray} {ks:List Nd} {p:Int} (h:dO (.mk k o n s ns ks p)=true):s.size≤600∧ns.length≤60∧(∀ x∈ns,x.size≤100)∧∀ x∈ks,dO x=true:=by
 rw [dO] at h;simp only [Bool.and_eq_true,decide_eq_true_eq,Bool.not_eq_true'] at h;obtain⟨h1,h2,h3,h4⟩:=h;refine⟨h1,h2,?_,?_⟩
 ·intro x hx;unfold DH at h3;rw [List.any_eq_false] at h3;have:=h3 x hx;simp at this;omega
 ·clear h1 h2 h3;induction ks with
  | nil=>intro x hx;cases hx
  | cons y r ih=>
   rw [tY,Bool.and_eq_true] at h4;intro x hx;rcases List.mem_cons.1 hx with e | hx
   ·rw [e];exact h4.1
   ·exact ih h4.2 x hx
theorem BM {s:ByteArray} {f k:Nat} {acc:List Tok} (h:s.size≤k):jI s (f+1) k acc=(acc++[⟨6,⟨#[]⟩,0,s.size⟩],0,0):=by rw [jI,if_pos h]
theorem KB {s:ByteArray} {f k:Nat} {acc:List Tok} {o:TokOut} (h:k<s.size) (ho:cO (s.data.toList.drop k) k=o) (he:o.2.2≠0):jI s (f+1) k acc=([],o.2.1,o.2.2):=by
 rw [jI,if_neg (by omega),ho,if_pos he]
theorem Af {s:ByteArray} {f k:Nat} {acc:List Tok} {o:TokOut} (h:k<s.size) (ho:cO (s.data.toList.drop k) k=o) (he:o.2.2=0) (hf:acc.length=600):jI s (f+1) k acc=([],k,5):=by
 rw [jI,if_neg (by omega),ho,if_neg (by rw [he];decide),if_pos hf]
theorem Ag {s:ByteArray} {f k:Nat} {acc:List Tok} {o:TokOut} (h:k<s.size) (ho:cO (s.data.toList.drop k) k=o) (he:o.2.2=0) (hf:acc.length≠600) :
  jI s (f+1) k acc=jI s f (skipTo false s o.2.1) (acc++[o.1]):=by
 rw [jI,if_neg (by omega),ho,if_neg (by rw [he];decide),if_neg hf]
theorem yK:∀ (f m:Nat),(yE f m).all kS=true
 | 0,_=>by simp [yE]
 | f+1,m=>by
  unfold yE;split
  ·rename_i h;simp only [List.all_cons,List.all_nil,kS,xB h];simp;omega
  ·rw [List.all_append,yK f (m / 10)];simp only [List.all_cons,List.all_nil,kS,wE];simp;omega
theorem MD:∀ (f m:Nat),yE (f+1) m≠[]:=by
 intro f m;unfold yE;split<;>simp
theorem BN:∀ (f m:Nat),m<10 ^ f→(m≤4611686018427387903→nZ (yE f m)=((m:Int),false))∧(4611686018427387903<m→(nZ (yE f m)).2=true)
 | 0,m,h=>by
  have:m=0:=by simpa using h
  subst this;exact⟨fun _=>rfl,fun h=>absurd h (by decide)⟩
 | f+1,m,h=>by
  by_cases hs:m<10
  ·rw [Br hs];refine⟨fun _=>?_,fun h=>by omega⟩;simp only [nZ,List.foldl_cons,List.foldl_nil,xB hs,nX];rw [if_neg (by simp;omega)];simp;omega
  ·rw [Ih (by omega),Du,wE];have hq:m / 10<10 ^ f:=by rw [Nat.pow_succ] at h;omega
   have ih:=BN f (m / 10) hq;refine⟨fun hm=>?_,fun hm=>?_⟩
   ·rw [ih.1 (by omega)];unfold nX;rw [if_neg (by simp;omega)];simp;omega
   ·by_cases hq2:m / 10≤4611686018427387903
    ·rw [ih.1 hq2];unfold nX;rw [if_pos (by right;simp;omega)]
    ·unfold nX;rw [if_pos (Or.inl (ih.2 (by omega)))]
theorem Ox {n:Int} (h0:0≤n) (h1:n≤4611686018427387903):fA (digs n)=(n,0):=by
 unfold digs;rw [if_neg (by omega),uT (MD _ _) (yK _ _),(BN 20 n.natAbs (by omega)).1 (by omega)];unfold wD;simp;omega
theorem Ej (x r:List UInt8):(x++r).take x.length=x:=by simp
theorem rU (s:ByteArray):(⟨s.data.toList.toArray⟩:ByteArray)=s:=by cases s;simp
theorem Ek {b:UInt8} {x r:List UInt8} {k:Nat} (h:bW b.toNat=true):cO (b::x++r) k=jY (b::x++r) k:=by
 show cO (b::(x++r)) k=jY (b::(x++r)) k;unfold cO;simp only;rw [if_pos h]
theorem xK {n:Nat} (h:bW n=true):fN n=true:=by simp [fN,h]
theorem CG {n:Nat} (h:bX n=true):bW n=false:=by
 simp [bX] at h;simp [bW];omega
theorem KC:∀ x∈keyL,∃ b r,x=b::r∧bW b.toNat=true∧∀ c∈x,fN c.toNat=true:=by
 have h:∀ x∈keyL,(match x with | []=>false | b::_=>bW b.toNat)=true∧x.all (fun c=>fN c.toNat)=true:=by decide
 intro x hx;obtain⟨h1,h2⟩:=h x hx;cases x with
 | nil=>cases h1
 | cons b r=>exact⟨b,r,rfl,h1,fun c hc=>List.all_eq_true.1 h2 c hc⟩
theorem uE {x:List UInt8} (h:nameB x=true):∃ b r,x=b::r∧bW b.toNat=true∧∀ c∈x,fN c.toNat=true:=by
 cases x with
 | nil=>cases h
 | cons b r=>
  simp only [nameB,Bool.and_eq_true,List.all_eq_true] at h;refine⟨b,r,rfl,h.1.1,?_⟩;intro c hc;rcases List.mem_cons.1 hc with rfl | hc
  ·exact xK h.1.1
  ·exact h.1.2 c hc
def Tok.put (t:Tok) (k:Nat):Tok:=⟨t.kind,t.text,t.num,k⟩
theorem KD {b:UInt8} {y:List UInt8} {k:Nat} (h:iA b.toNat=true):(cO (b::y) k).2.2=11:=by
 have h3:b=32∨b=10∨b=9:=by
  simp [iA] at h;rcases h with h | h | h
  ·left;exact UInt8.toNat_inj.1 h
  ·right;left;exact UInt8.toNat_inj.1 h
  ·right;right;exact UInt8.toNat_inj.1 h
 rcases h3 with rfl | rfl | rfl<;>rfl
def bare (t:Tok):Int×ByteArray×Int:=(t.kind,t.text,t.num)
theorem rV (l:List UInt8):0≤(fA l).1∧(fA l).1≤4611686018427387903:=by
 unfold fA;split
 ·exact⟨by decide,by decide⟩
 ·rename_i h;have hall:l.all kS=true:=by simp at h;simpa using h.2
  have:=yT l hall;unfold wD;split
  ·exact⟨by decide,by decide⟩
  ·exact this
theorem xL:∀ (L:List (List UInt8)) (l:List UInt8),gB L l=[]∨gB L l∈L
 | [],_=>.inl rfl
 | x::L,l=>by
  unfold gB;split
  ·right;simp
  ·rcases xL L l with h | h
   ·exact .inl h
   ·right;simp [h]
theorem BO {l:List UInt8} {k:Nat} (h:(cO l k).2.2=0):cP (cO l k).1=true∧(cO l k).1.kind≠6∧(cO l k).1.pl=k:=by
 match l with
 | []=>simp [cO] at h
 | b::r=>
  unfold cO at h ⊢;simp only at h ⊢;by_cases hl:bW b.toNat=true
  ·rw [if_pos hl] at h ⊢;unfold jY at h ⊢;by_cases h3:jG ((b::r).take (jW fN (b::r)))=true
   ·rw [if_pos h3];refine⟨?_,by simp,rfl⟩;simpa [cP] using h3
   ·rw [if_neg h3] at h ⊢;by_cases h4:nameB ((b::r).take (jW fN (b::r)))=true
    ·rw [if_pos h4];refine⟨?_,by simp,rfl⟩;simp [cP];exact⟨h4,by simpa using h3⟩
    ·rw [if_neg h4] at h;simp at h
  ·rw [if_neg hl] at h ⊢;by_cases hd:bX b.toNat=true
   ·rw [if_pos hd] at h ⊢;unfold kM at h ⊢;by_cases h3:(fA ((b::r).take (jW bX (b::r)))).2=0
    ·rw [if_pos h3];refine⟨?_,by simp,rfl⟩;have:=rV ((b::r).take (jW bX (b::r)));simp [cP];exact this
    ·rw [if_neg h3] at h;exact absurd h h3
   ·rw [if_neg hd] at h ⊢;by_cases h34:b.toNat=34
    ·rw [if_pos h34] at h ⊢;unfold mR at h ⊢;by_cases h3:(takeOut (b::r)).2.2=0
     ·rw [if_pos h3] at h ⊢;by_cases h4:256<(takeOut (b::r)).1.length
      ·rw [if_pos h4] at h;simp at h
      ·rw [if_neg h4];refine⟨?_,by simp,rfl⟩;have e:(⟨(takeOut (b::r)).1.toArray⟩:ByteArray).size=(takeOut (b::r)).1.length:=by rw [← cF]
       simp only [cP];simp [e];omega
     ·rw [if_neg h3] at h;exact absurd h h3
    ·rw [if_neg h34] at h ⊢;unfold nQ at h ⊢;by_cases h3:signL (b::r)=[]
     ·rw [if_pos h3] at h;simp at h
     ·rw [if_neg h3];refine⟨?_,by simp,rfl⟩;rcases xL sgnL (b::r) with h4 | h4
      ·exact absurd h4 h3
      ·simp [cP];exact h4
theorem Em (s:ByteArray):∀ (f k:Nat) (acc:List Tok),(∀ t∈acc,cP t=true)→∀ t∈(jI s f k acc).1,cP t=true
 | 0,_,_,_=>by simp [jI]
 | f+1,k,acc,ha=>by
  rw [jI];split
  ·intro t ht;rcases List.mem_append.1 ht with h | h
   ·exact ha t h
   ·rw [List.mem_singleton.1 h];rfl
  ·split
   ·simp
   ·rename_i he;split
    ·simp
    ·refine Em s f _ _ fun t ht=>?_
     rcases List.mem_append.1 ht with h | h
     ·exact ha t h
     ·rw [List.mem_singleton.1 h];exact (BO (by simpa using he)).1
theorem wN (s:ByteArray):∀ t∈(tokOut s).1,cP t=true:=by
 unfold tokOut;split
 ·simp
 ·exact Em s _ _ _ (by simp)
end Go.Proofs.YtdnnmjhfidimcaaGreatDoor
