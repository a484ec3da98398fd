/- A token that is read may be. The document's signs. What Parse and Expr tell, as plain functions. What is asked of a node of each kind. The writer: what it holds, and what it writes at once. -/
import Derived.Test.YtdnnmjhfidimcaaGreatDoorJoint4
import Derived.Test.YtdnnmjhfidimcaaGreatDoorJoint6
import Derived.Test.YtdnnmjhfidimcaaGreatDoorJoint3
import Derived.Test.YtdnnmjhfidimcaaGreatDoorJoint1
import Derived.Test.YtdnnmjhfidimcaaGreatDoorJoint2
import Derived.Test.YtdnnmjhfidimcaaGreatDoorJoint11
import Derived.Test.YtdnnmjhfidimcaaGreatDoorBld
namespace Go.Proofs.YtdnnmjhfidimcaaGreatDoor
open Go.RowKit
theorem rV (l:List UInt8):0≤(fA l).1∧(fA l).1≤4611686018427387903:=by
 unfold fA;split
 ·exact⟨by decide,by decide⟩
 ·rename_i h;have hall:l.all kS=true:=by simp at h;simpa using h.2
  have:=yT l hall;unfold wD;split
  ·exact⟨by decide,by decide⟩
  ·exact this
theorem xL:∀ (L:List (List UInt8)) (l:List UInt8),gB L l=[]∨gB L l∈L
 | [],_=>.inl rfl
 | x::L,l=>by
  unfold gB;split
  ·right;simp
  ·rcases xL L l with h | h
   ·exact .inl h
   ·right;simp [h]
theorem BO {l:List UInt8} {k:Nat} (h:(cO l k).2.2=0):cP (cO l k).1=true∧(cO l k).1.kind≠6∧(cO l k).1.pl=k:=by
 match l with
 | []=>simp [cO] at h
 | b::r=>
  unfold cO at h ⊢;simp only at h ⊢;by_cases hl:bW b.toNat=true
  ·rw [if_pos hl] at h ⊢;unfold jY at h ⊢;by_cases h3:jG ((b::r).take (jW fN (b::r)))=true
   ·rw [if_pos h3];refine⟨?_,by simp,rfl⟩;simpa [cP] using h3
   ·rw [if_neg h3] at h ⊢;by_cases h4:nameB ((b::r).take (jW fN (b::r)))=true
    ·rw [if_pos h4];refine⟨?_,by simp,rfl⟩;simp [cP];exact⟨h4,by simpa using h3⟩
    ·rw [if_neg h4] at h;simp at h
  ·rw [if_neg hl] at h ⊢;by_cases hd:bX b.toNat=true
   ·rw [if_pos hd] at h ⊢;unfold kM at h ⊢;by_cases h3:(fA ((b::r).take (jW bX (b::r)))).2=0
    ·rw [if_pos h3];refine⟨?_,by simp,rfl⟩;have:=rV ((b::r).take (jW bX (b::r)));simp [cP];exact this
    ·rw [if_neg h3] at h;exact absurd h h3
   ·rw [if_neg hd] at h ⊢;by_cases h34:b.toNat=34
    ·rw [if_pos h34] at h ⊢;unfold mR at h ⊢;by_cases h3:(takeOut (b::r)).2.2=0
     ·rw [if_pos h3] at h ⊢;by_cases h4:256<(takeOut (b::r)).1.length
      ·rw [if_pos h4] at h;simp at h
      ·rw [if_neg h4];refine⟨?_,by simp,rfl⟩;have e:(⟨(takeOut (b::r)).1.toArray⟩:ByteArray).size=(takeOut (b::r)).1.length:=by rw [← cF]
       simp only [cP];simp [e];omega
     ·rw [if_neg h3] at h;exact absurd h h3
    ·rw [if_neg h34] at h ⊢;unfold nQ at h ⊢;by_cases h3:signL (b::r)=[]
     ·rw [if_pos h3] at h;simp at h
     ·rw [if_neg h3];refine⟨?_,by simp,rfl⟩;rcases xL sgnL (b::r) with h4 | h4
      ·exact absurd h4 h3
      ·simp [cP];exact h4
theorem Em (s:ByteArray):∀ (f k:Nat) (acc:List Tok),(∀ t∈acc,cP t=true)→∀ t∈(jI s f k acc).1,cP t=true
 | 0,_,_,_=>by simp [jI]
 | f+1,k,acc,ha=>by
  rw [jI];split
  ·intro t ht;rcases List.mem_append.1 ht with h | h
   ·exact ha t h
   ·rw [List.mem_singleton.1 h];rfl
  ·split
   ·simp
   ·rename_i he;split
    ·simp
    ·refine Em s f _ _ fun t ht=>?_
     rcases List.mem_append.1 ht with h | h
     ·exact ha t h
     ·rw [List.mem_singleton.1 h];exact (BO (by simpa using he)).1
theorem wN (s:ByteArray):∀ t∈(tokOut s).1,cP t=true:=by
 unfold tokOut;split
 ·simp
 ·exact Em s _ _ _ (by simp)
def ndZ:Nd:=.mk 0 0 0 bz [] [] 0
def iL (f:Nat) (prog:Bool) (s:ByteArray):Nd×Int×Int:=
 if (tokOut s).2.2≠0 then (ndZ,(tokOut s).2.1,(tokOut s).2.2)
 else match qF f prog (tokOut s).1 with
  | .bad l=>(ndZ,(cur l).pl,12)
  | .ok t _ _=>if 12<fF t then (ndZ,0,13) else (t,0,0)
def fP (k o n:Int) (s:ByteArray) (ns:List ByteArray) (c:Nat):Bool:=
 alikeB k o n s ns c k (cond (dC k) o 0) (cond (cC k) n 0) (cond (cG k) s ⟨#[]⟩) (cond (cS k) ns []) (cond (eQ k) 0 c)
theorem NB (s:ByteArray):(s.data.toList==(⟨#[]⟩:ByteArray).data.toList)=decide (s.size=0):=by
 have e:s.size=s.data.toList.length:=by simp
 rw [Bool.eq_iff_iff,beq_iff_eq,decide_eq_true_iff,e,List.length_eq_zero_iff]
theorem ON (ns:List ByteArray):namesB ns []=decide (ns.length=0):=by
 unfold namesB;cases ns<;>rfl
theorem OO (ns:List ByteArray):namesB ns ns=true:=by simp [namesB]
theorem cW (k o n:Int) (s:ByteArray) (ns:List ByteArray) (c:Nat):fP k o n s ns c =
  (cond (dC k) true (decide (o=0))&&(cond (cC k) true (decide (n=0))&&(cond (cG k) true (decide (s.size=0))&&(cond (cS k) true (decide (ns.length=0))&&cond (eQ k) (decide (c=0)) true)))):=by
 unfold fP alikeB;rw [beq_self_eq_true,Bool.true_and];congr 1
 ·cases dC k
  ·rw [Bool.eq_iff_iff];simp
  ·simp
 congr 1
 ·cases cC k
  ·rw [Bool.eq_iff_iff];simp
  ·simp
 congr 1
 ·cases cG k
  ·exact NB s
  ·simp
 congr 1
 ·cases cS k
  ·exact ON ns
  ·exact OO ns
 ·cases eQ k
  ·simp
  ·rw [Bool.eq_iff_iff];simp
theorem Ll (o:Int):(signT o != [])=decide (1≤o∧o≤11):=by
 by_cases h:0≤o∧o≤11
 ·obtain rfl | rfl | rfl | rfl | rfl | rfl | rfl | rfl | rfl | rfl | rfl | rfl:o=0∨o=1∨o=2∨o=3∨o=4∨o=5∨o=6∨o=7∨o=8∨o=9∨o=10∨o=11:=by omega
  all_goals rfl
 ·rw [decide_eq_false (by omega)];have:signT o=[]:=by
   unfold signT;by_cases h0:o<0
   ·rw [if_pos h0]
   ·rw [if_neg h0,List.getD_eq_getElem?_getD,List.getElem?_eq_none (by simp [tsgnL];omega)];rfl
  rw [this];rfl
theorem Bp (o:Int):decide (0<(builtT o).2)=decide (1≤o∧o≤7):=by
 by_cases h:0≤o∧o≤7
 ·obtain rfl | rfl | rfl | rfl | rfl | rfl | rfl | rfl:o=0∨o=1∨o=2∨o=3∨o=4∨o=5∨o=6∨o=7:=by omega
  all_goals rfl
 ·rw [show decide (1≤o∧o≤7)=false from decide_eq_false (by omega)];have:builtT o=([],0):=by
   unfold builtT;by_cases h0:o<0
   ·rw [if_pos h0]
   ·rw [if_neg h0,List.getD_eq_getElem?_getD,List.getElem?_eq_none (by simp [builtL];omega)];rfl
  rw [this];rfl
theorem Qm (o n:Int) (s:ByteArray) (ns:List ByteArray) (ks:List Nd) (p:Int):rightN (.mk 1 o n s ns ks p) 1=(fP 1 o n s ns ks.length&&true):=by
 rw [aQ,cW];cases ks with
 | nil=>
  have e:cL [] 1 0=true:=by rw [cL]
  rw [e];simp [jS,kD,cT,bQ,bM,cR,bN,dC,cC,cG,cS,eQ];try (rw [Bool.eq_iff_iff];simp;grind)
 | cons x r=>
  simp [jS,kD,cT,bQ,bM,cR,bN,dC,cC,cG,cS,eQ]
theorem Qn (o n:Int) (s:ByteArray) (ns:List ByteArray) (ks:List Nd) (p:Int):rightN (.mk 6 o n s ns ks p) 1=(fP 6 o n s ns ks.length&&true):=by
 rw [aQ,cW];cases ks with
 | nil=>
  have e:cL [] 6 0=true:=by rw [cL]
  rw [e];simp [jS,kD,cT,bQ,bM,cR,bN,dC,cC,cG,cS,eQ];try (rw [Bool.eq_iff_iff];simp;grind)
 | cons x r=>
  simp [jS,kD,cT,bQ,bM,cR,bN,dC,cC,cG,cS,eQ]
theorem NC (o n:Int) (s:ByteArray) (ns:List ByteArray) (ks:List Nd) (p:Int):rightN (.mk 2 o n s ns ks p) 1=(fP 2 o n s ns ks.length&&(decide (n=0)||decide (n=1))):=by
 rw [aQ,cW];cases ks with
 | nil=>
  have e:cL [] 2 0=true:=by rw [cL]
  rw [e];simp [jS,kD,cT,bQ,bM,cR,bN,dC,cC,cG,cS,eQ];try (rw [Bool.eq_iff_iff];simp;grind)
 | cons x r=>
  simp [jS,kD,cT,bQ,bM,cR,bN,dC,cC,cG,cS,eQ]
theorem ND (o n:Int) (s:ByteArray) (ns:List ByteArray) (ks:List Nd) (p:Int):rightN (.mk 3 o n s ns ks p) 1=(fP 3 o n s ns ks.length&&(decide (0≤n)&&decide (n≤4611686018427387903))):=by
 rw [aQ,cW];cases ks with
 | nil=>
  have e:cL [] 3 0=true:=by rw [cL]
  rw [e];simp [jS,kD,cT,bQ,bM,cR,bN,dC,cC,cG,cS,eQ];try (rw [Bool.eq_iff_iff];simp;grind)
 | cons x r=>
  simp [jS,kD,cT,bQ,bM,cR,bN,dC,cC,cG,cS,eQ]
theorem Qo (o n:Int) (s:ByteArray) (ns:List ByteArray) (ks:List Nd) (p:Int):rightN (.mk 4 o n s ns ks p) 1=(fP 4 o n s ns ks.length&&decide (s.size≤256)):=by
 rw [aQ,cW];cases ks with
 | nil=>
  have e:cL [] 4 0=true:=by rw [cL]
  rw [e];simp [jS,kD,cT,bQ,bM,cR,bN,dC,cC,cG,cS,eQ];try (rw [Bool.eq_iff_iff];simp;grind)
 | cons x r=>
  simp [jS,kD,cT,bQ,bM,cR,bN,dC,cC,cG,cS,eQ]
theorem NE (o n:Int) (s:ByteArray) (ns:List ByteArray) (ks:List Nd) (p:Int):rightN (.mk 5 o n s ns ks p) 1=(fP 5 o n s ns ks.length&&properB s):=by
 rw [aQ,cW];cases ks with
 | nil=>
  have e:cL [] 5 0=true:=by rw [cL]
  rw [e];simp [jS,kD,cT,bQ,bM,cR,bN,dC,cC,cG,cS,eQ];try (rw [Bool.eq_iff_iff];simp;grind)
 | cons x r=>
  simp [jS,kD,cT,bQ,bM,cR,bN,dC,cC,cG,cS,eQ]
theorem NF (o n:Int) (s:ByteArray) (ns:List ByteArray) (ks:List Nd) (p:Int):rightN (.mk 7 o n s ns ks p) 1=(fP 7 o n s ns ks.length&&(decide (ns.length=ks.length)&&((decide (ns.length≤40)&&ns.all dH)&&(decide (ks.length≤40)&&(!ks.any fun x=>!rightN x 1))))):=by
 rw [aQ,cW];rw [dB (a:=1) (by intro i;simp [bJ])];generalize (!ks.any fun x=>!rightN x 1)=b;simp [jS,kD,cT,bQ,bM,cR,bN,dC,cC,cG,cS,eQ];try (rw [Bool.eq_iff_iff];simp;grind)
theorem NG (o n:Int) (s:ByteArray) (ns:List ByteArray) (ks:List Nd) (p:Int):rightN (.mk 8 o n s ns ks p) 1=(fP 8 o n s ns ks.length&&((decide (ns.length≤6)&&ns.all properB)&&(decide (ks.length≤40)&&(!ks.any fun x=>!rightN x 2)))):=by
 rw [aQ,cW];rw [dB (a:=2) (by intro i;simp [bJ])];generalize (!ks.any fun x=>!rightN x 2)=b;simp [jS,kD,cT,bQ,bM,cR,bN,dC,cC,cG,cS,eQ];try (rw [Bool.eq_iff_iff];simp;grind)
theorem NH (o n:Int) (s:ByteArray) (ns:List ByteArray) (ks:List Nd) (p:Int):rightN (.mk 9 o n s ns ks p) 1=(fP 9 o n s ns ks.length&&((decide (o=1)||decide (o=2))&&(decide (ks.length=1)&&(!ks.any fun x=>!rightN x 1)))):=by
 rw [aQ,cW];rw [dB (a:=1) (by intro i;simp [bJ])];generalize (!ks.any fun x=>!rightN x 1)=b;simp [jS,kD,cT,bQ,bM,cR,bN,dC,cC,cG,cS,eQ];try (rw [Bool.eq_iff_iff];simp;grind)
theorem IZ (o n:Int) (s:ByteArray) (ns:List ByteArray) (ks:List Nd) (p:Int):rightN (.mk 10 o n s ns ks p) 1=(fP 10 o n s ns ks.length&&((signT o != [])&&(decide (ks.length=2)&&(!ks.any fun x=>!rightN x 1)))):=by
 rw [aQ,cW];rw [dB (a:=1) (by intro i;simp [bJ])];rw [Ll];generalize (!ks.any fun x=>!rightN x 1)=b;simp [jS,kD,cT,bQ,bM,cR,bN,dC,cC,cG,cS,eQ];try (rw [Bool.eq_iff_iff];simp;grind)
theorem Ja (o n:Int) (s:ByteArray) (ns:List ByteArray) (ks:List Nd) (p:Int):rightN (.mk 11 o n s ns ks p) 1=(fP 11 o n s ns ks.length&&(decide (ks.length=2)&&(!ks.any fun x=>!rightN x 1))):=by
 rw [aQ,cW];rw [dB (a:=1) (by intro i;simp [bJ])];generalize (!ks.any fun x=>!rightN x 1)=b;simp [jS,kD,cT,bQ,bM,cR,bN,dC,cC,cG,cS,eQ];try (rw [Bool.eq_iff_iff];simp;grind)
theorem Jb (o n:Int) (s:ByteArray) (ns:List ByteArray) (ks:List Nd) (p:Int):rightN (.mk 12 o n s ns ks p) 1=(fP 12 o n s ns ks.length&&(decide (ks.length=2)&&(!ks.any fun x=>!rightN x 1))):=by
 rw [aQ,cW];rw [dB (a:=1) (by intro i;simp [bJ])];generalize (!ks.any fun x=>!rightN x 1)=b;simp [jS,kD,cT,bQ,bM,cR,bN,dC,cC,cG,cS,eQ];try (rw [Bool.eq_iff_iff];simp;grind)
theorem Jc (o n:Int) (s:ByteArray) (ns:List ByteArray) (ks:List Nd) (p:Int):rightN (.mk 14 o n s ns ks p) 1=(fP 14 o n s ns ks.length&&(decide (ks.length=2)&&(!ks.any fun x=>!rightN x 1))):=by
 rw [aQ,cW];rw [dB (a:=1) (by intro i;simp [bJ])];generalize (!ks.any fun x=>!rightN x 1)=b;simp [jS,kD,cT,bQ,bM,cR,bN,dC,cC,cG,cS,eQ];try (rw [Bool.eq_iff_iff];simp;grind)
theorem Jd (o n:Int) (s:ByteArray) (ns:List ByteArray) (ks:List Nd) (p:Int):rightN (.mk 13 o n s ns ks p) 1=(fP 13 o n s ns ks.length&&(dH s&&(decide (ks.length=1)&&(!ks.any fun x=>!rightN x 1)))):=by
 rw [aQ,cW];rw [dB (a:=1) (by intro i;simp [bJ])];generalize (!ks.any fun x=>!rightN x 1)=b;simp [jS,kD,cT,bQ,bM,cR,bN,dC,cC,cG,cS,eQ];try (rw [Bool.eq_iff_iff];simp;grind)
theorem Je (o n:Int) (s:ByteArray) (ns:List ByteArray) (ks:List Nd) (p:Int):rightN (.mk 15 o n s ns ks p) 1=(fP 15 o n s ns ks.length&&(decide (1≤ks.length∧ks.length≤7)&&(!ks.any fun x=>!rightN x 1))):=by
 rw [aQ,cW];rw [dB (a:=1) (by intro i;simp [bJ])];generalize (!ks.any fun x=>!rightN x 1)=b;simp [jS,kD,cT,bQ,bM,cR,bN,dC,cC,cG,cS,eQ];try (rw [Bool.eq_iff_iff];simp;grind)
theorem Jf (o n:Int) (s:ByteArray) (ns:List ByteArray) (ks:List Nd) (p:Int):rightN (.mk 16 o n s ns ks p) 1=(fP 16 o n s ns ks.length&&(dH s&&(decide (1≤ks.length∧ks.length≤7)&&(!ks.any fun x=>!rightN x 1)))):=by
 rw [aQ,cW];rw [dB (a:=1) (by intro i;simp [bJ])];generalize (!ks.any fun x=>!rightN x 1)=b;simp [jS,kD,cT,bQ,bM,cR,bN,dC,cC,cG,cS,eQ];try (rw [Bool.eq_iff_iff];simp;grind)
theorem Jg (o n:Int) (s:ByteArray) (ns:List ByteArray) (ks:List Nd) (p:Int):rightN (.mk 17 o n s ns ks p) 1=(fP 17 o n s ns ks.length&&(decide (0<(builtT o).2)&&(decide (ks.length=(builtT o).2)&&(!ks.any fun x=>!rightN x 1)))):=by
 rw [aQ,cW];rw [dB (a:=1) (by intro i;simp [bJ])];rw [Bp];generalize (!ks.any fun x=>!rightN x 1)=b;simp [jS,kD,cT,bQ,bM,cR,bN,dC,cC,cG,cS,eQ];try (rw [Bool.eq_iff_iff];simp;grind)
theorem Jh (o n:Int) (s:ByteArray) (ns:List ByteArray) (ks:List Nd) (p:Int):rightN (.mk 21 o n s ns ks p) 2=(fP 21 o n s ns ks.length&&(properB s&&(decide (ks.length=1)&&(!ks.any fun x=>!rightN x 1)))):=by
 rw [aQ,cW];rw [dB (a:=1) (by intro i;simp [bJ])];generalize (!ks.any fun x=>!rightN x 1)=b;simp [jS,kD,cT,bQ,bM,cR,bN,dC,cC,cG,cS,eQ];try (rw [Bool.eq_iff_iff];simp;grind)
theorem Ji (o n:Int) (s:ByteArray) (ns:List ByteArray) (ks:List Nd) (p:Int):rightN (.mk 22 o n s ns ks p) 2=(fP 22 o n s ns ks.length&&(properB s&&(decide (ks.length=1)&&(!ks.any fun x=>!rightN x 1)))):=by
 rw [aQ,cW];rw [dB (a:=1) (by intro i;simp [bJ])];generalize (!ks.any fun x=>!rightN x 1)=b;simp [jS,kD,cT,bQ,bM,cR,bN,dC,cC,cG,cS,eQ];try (rw [Bool.eq_iff_iff];simp;grind)
theorem Jj (o n:Int) (s:ByteArray) (ns:List ByteArray) (ks:List Nd) (p:Int):rightN (.mk 23 o n s ns ks p) 2=(fP 23 o n s ns ks.length&&(dH s&&(decide (ks.length=2)&&(!ks.any fun x=>!rightN x 1)))):=by
 rw [aQ,cW];rw [dB (a:=1) (by intro i;simp [bJ])];generalize (!ks.any fun x=>!rightN x 1)=b;simp [jS,kD,cT,bQ,bM,cR,bN,dC,cC,cG,cS,eQ];try (rw [Bool.eq_iff_iff];simp;grind)
theorem Jk (o n:Int) (s:ByteArray) (ns:List ByteArray) (ks:List Nd) (p:Int):rightN (.mk 24 o n s ns ks p) 2=(fP 24 o n s ns ks.length&&(decide (ks.length=3)&&(!ks.any fun x=>!rightN x 1))):=by
 rw [aQ,cW];rw [dB (a:=1) (by intro i;simp [bJ])];generalize (!ks.any fun x=>!rightN x 1)=b;simp [jS,kD,cT,bQ,bM,cR,bN,dC,cC,cG,cS,eQ];try (rw [Bool.eq_iff_iff];simp;grind)
theorem Jl (o n:Int) (s:ByteArray) (ns:List ByteArray) (ks:List Nd) (p:Int):rightN (.mk 25 o n s ns ks p) 2=(fP 25 o n s ns ks.length&&(dH s&&(decide (ks.length=1)&&(!ks.any fun x=>!rightN x 1)))):=by
 rw [aQ,cW];rw [dB (a:=1) (by intro i;simp [bJ])];generalize (!ks.any fun x=>!rightN x 1)=b;simp [jS,kD,cT,bQ,bM,cR,bN,dC,cC,cG,cS,eQ];try (rw [Bool.eq_iff_iff];simp;grind)
theorem Jm (o n:Int) (s:ByteArray) (ns:List ByteArray) (ks:List Nd) (p:Int):rightN (.mk 26 o n s ns ks p) 2=(fP 26 o n s ns ks.length&&(decide (ks.length=2)&&(!ks.any fun x=>!rightN x 1))):=by
 rw [aQ,cW];rw [dB (a:=1) (by intro i;simp [bJ])];generalize (!ks.any fun x=>!rightN x 1)=b;simp [jS,kD,cT,bQ,bM,cR,bN,dC,cC,cG,cS,eQ];try (rw [Bool.eq_iff_iff];simp;grind)
theorem Jn (o n:Int) (s:ByteArray) (ns:List ByteArray) (ks:List Nd) (p:Int):rightN (.mk 27 o n s ns ks p) 2=(fP 27 o n s ns ks.length&&(decide (ks.length=1)&&(!ks.any fun x=>!rightN x 1))):=by
 rw [aQ,cW];rw [dB (a:=1) (by intro i;simp [bJ])];generalize (!ks.any fun x=>!rightN x 1)=b;simp [jS,kD,cT,bQ,bM,cR,bN,dC,cC,cG,cS,eQ];try (rw [Bool.eq_iff_iff];simp;grind)
theorem Jo (o n:Int) (s:ByteArray) (ns:List ByteArray) (ks:List Nd) (p:Int):rightN (.mk 31 o n s ns ks p) 2=(fP 31 o n s ns ks.length&&(decide (ks.length=1)&&(!ks.any fun x=>!rightN x 1))):=by
 rw [aQ,cW];rw [dB (a:=1) (by intro i;simp [bJ])];generalize (!ks.any fun x=>!rightN x 1)=b;simp [jS,kD,cT,bQ,bM,cR,bN,dC,cC,cG,cS,eQ];try (rw [Bool.eq_iff_iff];simp;grind)
theorem Jp (o n:Int) (s:ByteArray) (ns:List ByteArray) (ks:List Nd) (p:Int):rightN (.mk 32 o n s ns ks p) 2=(fP 32 o n s ns ks.length&&(decide (ks.length=1)&&(!ks.any fun x=>!rightN x 1))):=by
 rw [aQ,cW];rw [dB (a:=1) (by intro i;simp [bJ])];generalize (!ks.any fun x=>!rightN x 1)=b;simp [jS,kD,cT,bQ,bM,cR,bN,dC,cC,cG,cS,eQ];try (rw [Bool.eq_iff_iff];simp;grind)
theorem Jq (o n:Int) (s:ByteArray) (ns:List ByteArray) (ks:List Nd) (p:Int):rightN (.mk 29 o n s ns ks p) 3=(fP 29 o n s ns ks.length&&(decide (ks.length≤40)&&(!ks.any fun x=>!rightN x 2))):=by
 rw [aQ,cW];rw [dB (a:=2) (by intro i;simp [bJ])];generalize (!ks.any fun x=>!rightN x 2)=b;simp [jS,kD,cT,bQ,bM,cR,bN,dC,cC,cG,cS,eQ];try (rw [Bool.eq_iff_iff];simp;grind)
theorem xZ:CH 53 2:=⟨by kernel_rfl,by decide⟩
def Wr (B b:Nat) (l:List UInt8) (w:World):Prop:=Has 53 [] B b l w∧B≤w.heap.size
theorem Jt {B b:Nat} {l l':List UInt8} {a c:World} (h:Wr B b l a) (h':Has 53 [] B b l' c) (q:Near B b a c):Wr B b l' c:=⟨h',Nat.le_trans h.2 q.below.size⟩
theorem fD {B b:Nat} {l:List UInt8} {w:World} (h:Wr B b l w):b<w.heap.size:=h.1.lt
theorem iQ {B b:Nat} {l:List UInt8} {w:World} (h:Wr B b l w):Wr B b l w.drew:=⟨h.1.drew,h.2⟩
theorem bV {B b:Nat} {l:List UInt8} {a c:World} (h:Wr B b l a) (q:Below a.heap.size a c):Wr B b l c:=by
 obtain⟨⟨p,v,h1⟩,h2⟩:=h;have hb:b<a.heap.size:=fD ⟨⟨p,v,h1⟩,h2⟩;refine⟨⟨p,v,h1.low,h1.seen,(q.block b hb).trans h1.blk,?_,h1.ne,h1.nil⟩,Nat.le_trans h2 q.size⟩;refine⟨h1.own.1,?_⟩;rcases h1.own.2 with h3 | ⟨g,cap,cur,hv,hg,hh,r⟩
 ·exact .inl h3
 ·have hgl:g<a.heap.size:=rW hh;exact .inr ⟨g,cap,cur,hv,hg,(q.block g hgl).trans hh,r⟩
theorem NI {B b:Nat} {l:List UInt8} {w:World} (h:Wr B b l w):∃ ao cap,w.cell? ⟨b,1,none⟩=some (.slice ao l.length cap):=by
 obtain⟨⟨p,v,h1⟩,_⟩:=h;have c1:w.cell? ⟨b,1,none⟩=some v:=by rw [Lib.cell_of_heap h1.blk];rfl
 rcases h1.own.2 with ⟨hv,hz⟩ | ⟨g,cap,cur,hv,_⟩
 ·exact⟨none,0,by rw [c1,hv,hz]⟩
 ·exact⟨_,cap,by rw [c1,hv]⟩
theorem eJ {B b:Nat} {l:List UInt8} {w:World} (h:Hid (Wr B b l w)) (hl:l.length≤1000000000) :
  Calls Tryz.prog 27 #[.pointer (some ⟨b,0,none⟩)] w fun e w'=>e=.returned (.bool (decide (2000<l.length)))∧w=w':=by
 obtain⟨ao,cap,c1⟩:=NI h.out;clear h;by_cases h2:2000<l.length
 ·have H:=aA (show decide (2000<l.length)=true from decide_eq_true h2);have d:decide ((2000:Int)<(l.length:Int))=true:=decide_eq_true (by omega);go_enter Tryz.func27,Tryz.ntmps27;go_wp2;go_ret;exact⟨by rw [H.out];rfl,rfl⟩
 ·have H:=aA (show decide (2000<l.length)=false from decide_eq_false h2);have d:decide ((2000:Int)<(l.length:Int))=false:=decide_eq_false (by omega);go_enter Tryz.func27,Tryz.ntmps27;go_wp2;go_ret;exact⟨by rw [H.out];rfl,rfl⟩
def iS (B b:Nat) (l t:List UInt8) (w:World) (e:Ending) (w':World):Prop:=e=.returned (.tuple #[])∧∃ l',Wr B b l' w'∧WroteT l t l'∧Near B b w w'
theorem sT {B b:Nat} {l:List UInt8} {w:World} (c:UInt8) (n:Int) (hn:n=(c.toNat:Int)) (h:Hid (Wr B b l w)) (hl:l.length≤1000000000) :
  Calls Tryz.prog 46 #[.pointer (some ⟨b,0,none⟩),.int .u8 n] w fun e w'=>e=.returned .nilIface∧Wr B b (l++[c]) w'∧Near B b w w':=
 (rX _ _ B b l c n hn w h.out.1 xZ (by omega) h.out.2).mono fun _ _ ⟨h1,h2,h3⟩=>⟨h1,Jt h.out h2 h3,h3⟩
theorem Hy {B b:Nat} {l:List UInt8} {w:World} (s:ByteArray) (hs0:l++s.data.toList≠[]) (h:Hid (Wr B b l w)) (hl:l.length≤1000000000) (hs:s.size≤1000000000) :
  Calls Tryz.prog 74 #[.pointer (some ⟨b,0,none⟩),.string s] w fun e w'=>e=.returned (.tuple #[.int .i64 s.size,.nilIface])∧Wr B b (l++s.data.toList) w'∧Near B b w w':=
 (pS _ _ B b l s hs0 w h.out.1 xZ (by omega) h.out.2).mono fun _ _ ⟨h1,h2,h3⟩=>⟨h1,Jt h.out h2 h3,h3⟩
theorem aM {B b g:Nat} {k o n:Int} {s:ByteArray} {nv kv:Value} {p:Int} {a c:World} (h:mL g k o n s nv kv p a) (hg:g≠b) (q:Near B b a c):mL g k o n s nv kv p c:=by
 refine (q.rest g (Cs h) hg ?_).trans h;intro cur fz e;rw [h] at e;injection e with e;injection e with _ e _;exact absurd e (by decide)
theorem Lo {B b:Nat} {a c:World} (h:Near B b a c):Near B b a c.drew:=⟨h.below.drew,h.rest⟩
def dT (x:Nd):Prop:=∀ (B b:Nat) (l:List UInt8) (w:World) (nv kv:Value),Hid (Wr B b l w)→Hid (Ok B w)→Hid (lB B w x nv kv)→rightN x 1=true→dO x=true→bH x≤1000000→l.length+(textN x).e.length≤100000000→
  Calls Tryz.prog 115 #[.pointer (some ⟨b,0,none⟩),.agg #[.int .i64 x.kind,.int .i64 x.op,.int .i64 x.num,.string x.str,nv,kv,.int .i64 x.pl]] w (iS B b l (textN x).e w)
def mK (x:Nd):Prop:=∀ (B b:Nat) (l:List UInt8) (w:World) (nv kv:Value),Hid (Wr B b l w)→Hid (Ok B w)→Hid (lB B w x nv kv)→rightN x 2=true→dO x=true→bH x≤1000000→l.length+(textN x).s.length≤100000000→
  Calls Tryz.prog 47 #[.pointer (some ⟨b,0,none⟩),.agg #[.int .i64 x.kind,.int .i64 x.op,.int .i64 x.num,.string x.str,nv,kv,.int .i64 x.pl]] w (iS B b l (textN x).s w)
def nF (B:Nat) (x:Nd) (nv kv:Value) (r:Nat) (w:World):Prop:=lB B w x nv kv∧rightN x r=true∧dO x=true∧bH x≤1000000
theorem aE {B b:Nat} {x:Nd} {nv kv:Value} {r:Nat} {a c:World} (h:nF B x nv kv r a) (q:Near B b a c):nF B x nv kv r c:=⟨iN q.below _ _ _ h.1,h.2⟩
theorem HJ (x:Nd):(textN x).rank=rankT x.kind x.op:=by cases x;rw [mC];rfl
theorem Ia (x:Nd):(textN x).kind=x.kind:=by cases x;rw [mC];rfl
theorem NJ (x:Tx) (r:Int):x.e.length≤(cB x r).length:=by unfold cB;split<;>simp;omega
end Go.Proofs.YtdnnmjhfidimcaaGreatDoor
