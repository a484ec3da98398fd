/- What Read answers, as a plain function. Decimal digits of a whole number: no program in sight. The document's tokens as plain functions. -/
import Derived.WalkKit
import Derived.Test.YtdnnmjhfidimcaaGreatDoorTxtPlain
namespace Go.Proofs.YtdnnmjhfidimcaaGreatDoor
open Go.RowKit
def kS (b:UInt8):Bool:=decide (48≤b.toNat)&&decide (b.toNat≤57)
def nX (st:Int×Bool) (d:Int):Int×Bool:=if st.2=true∨(4611686018427387903 - d) / 10<st.1 then (st.1,true) else (10*st.1+d,false)
def nZ (l:List UInt8):Int×Bool:=l.foldl (fun st b=>nX st ((b.toNat:Int) - 48)) (0,false)
def wD (st:Int×Bool):Int×Int:=if st.2 then (0,10) else (st.1,0)
def fA (l:List UInt8):Int×Int:=if l.isEmpty||!l.all kS then (0,11) else wD (nZ l)
theorem Cp {st:Int×Bool} {d:Int} (h0:0≤st.1) (h1:st.1≤4611686018427387903) (d0:0≤d) (_d9:d≤9):0≤(nX st d).1∧(nX st d).1≤4611686018427387903:=by
 unfold nX;split
 ·exact⟨h0,h1⟩
 ·rename_i h;simp only [not_or] at h;constructor<;>simp only<;>omega
theorem Du (l:List UInt8) (b:UInt8):nZ (l++[b])=nX (nZ l) ((b.toNat:Int) - 48):=by simp [nZ]
theorem uS:∀ (l:List UInt8) (st:Int×Bool),0≤st.1→st.1≤4611686018427387903→l.all kS=true→
  0≤(l.foldl (fun st b=>nX st ((b.toNat:Int) - 48)) st).1∧(l.foldl (fun st b=>nX st ((b.toNat:Int) - 48)) st).1≤4611686018427387903
 | [],st,h0,h1,_=>⟨h0,h1⟩
 | b::l,st,h0,h1,h=>by
  rw [List.all_cons,Bool.and_eq_true] at h;have hb:=h.1;simp [kS] at hb;have:=Cp (d:=(b.toNat:Int) - 48) h0 h1 (by omega) (by omega);exact uS l _ this.1 this.2 h.2
theorem yT (l:List UInt8) (h:l.all kS=true):0≤(nZ l).1∧(nZ l).1≤4611686018427387903:=
 uS l (0,false) (by decide) (by decide) h
theorem AY (l:List UInt8) (k:Nat) (h:k<l.length):l.take (k+1)=l.take k++[l[k]]:=by
 rw [List.take_succ_eq_append_getElem h]
theorem xA {l:List UInt8} {k:Nat} (h:k<l.length) (hb:kS l[k]=false):fA l=(0,11):=by
 have:l.all kS=false:=by
  rw [List.all_eq_false];exact⟨l[k],List.getElem_mem h,by simp [hb]⟩
 simp [fA,this]
theorem uT {l:List UInt8} (h:l≠[]) (hall:l.all kS=true):fA l=wD (nZ l):=by
 unfold fA;rw [hall];cases l with
 | nil=>exact absurd rfl h
 | cons=>rfl
def yE:Nat→Nat→List UInt8
 | 0,_=>[]
 | f+1,m=>if m<10 then [UInt8.ofNat (48+m)] else yE f (m / 10)++[UInt8.ofNat (48+m % 10)]
def digs (n:Int):List UInt8:=if n<0 then 45::yE 20 n.natAbs else yE 20 n.natAbs
theorem Br {f r:Nat} (h:r<10):yE (f+1) r=[UInt8.ofNat (48+r)]:=by simp [yE,h]
theorem Ih {f r:Nat} (h:10≤r):yE (f+1) r=yE f (r / 10)++[UInt8.ofNat (48+r % 10)]:=by
 simp [yE,show ¬ r<10 from by omega]
theorem wE (r:Nat):(UInt8.ofNat (48+r % 10)).toNat=48+r % 10:=by
 rw [UInt8.toNat_ofNat'];omega
def Fc (m j r:Nat) (acc:List UInt8):Prop:=
 acc.length=j∧j≤19∧r<10 ^ (19 - j)∧(if 1≤j∧r=0 then yE 20 m=acc else yE 20 m=yE (20 - j) r++acc)
theorem Fd {m:Nat} (h:m<10 ^ 19):Fc m 0 m []:=⟨rfl,by omega,h,by simp⟩
theorem Ii {m j r:Nat} {acc:List UInt8} (h:Fc m j r acc) (hr:0<r∨j=0):j<19:=by
 obtain⟨_,h2,h3,_⟩:=h;rcases hr with hr | hr
 ·rcases Nat.lt_or_ge j 19 with h | h
  ·exact h
  ·have:19 - j=0:=by omega
   rw [this] at h3;simp at h3;omega
 ·omega
theorem Jv {m j r:Nat} {acc:List UInt8} (h:Fc m j r acc) (hr:0<r∨j=0):Fc m (j+1) (r / 10) (UInt8.ofNat (48+r % 10)::acc):=by
 have hlt:=Ii h hr;obtain⟨h1,h2,h3,h4⟩:=h;have hn:¬ (1≤j∧r=0):=by omega
 rw [if_neg hn] at h4;have e1:19 - j=(18 - j)+1:=by omega
 have e2:20 - j=(19 - j)+1:=by omega
 refine⟨by simp [h1],by omega,?_,?_⟩
 ·rw [e1,Nat.pow_succ] at h3;rw [show 19 - (j+1)=18 - j from by omega];omega
 ·rw [e2] at h4;by_cases hs:r<10
  ·rw [if_pos ⟨by omega,by omega⟩,h4,Br hs,Nat.mod_eq_of_lt hs];rfl
  ·rw [if_neg (by omega),h4,Ih (by omega),show 20 - (j+1)=19 - j from by omega];simp
theorem LA {m j r:Nat} {acc:List UInt8} (h:Fc m j r acc) (hr:r=0) (hj:j≠0):acc=yE 20 m:=by
 obtain⟨_,_,_,h4⟩:=h;rw [if_pos ⟨by omega,hr⟩] at h4;exact h4.symm
theorem yU:∀ (f m:Nat),(yE f m).length≤f
 | 0,_=>by simp [yE]
 | f+1,m=>by
  unfold yE;split
  ·simp
  ·have:=yU f (m / 10);simp;omega
theorem Dv (n:Int):(digs n).length≤21:=by
 have:=yU 20 n.natAbs;unfold digs;split
 ·simp;omega
 ·omega
theorem xB {m:Nat} (h:m<10):(UInt8.ofNat (48+m)).toNat=48+m:=by rw [UInt8.toNat_ofNat'];omega
def iA (n:Nat):Bool:=decide (n=32∨n=10∨n=9)
def kZ (n:Nat):Bool:=decide (n≠10)
def fN (n:Nat):Bool:=bW n||bX n
def jW (p:Nat→Bool):List UInt8→Nat
 | []=>0
 | b::r=>if p b.toNat then jW p r+1 else 0
def gA:List UInt8→Bool
 | a::b::_=>decide (a.toNat=47∧b.toNat=47)
 | _=>false
def lA:Bool→List UInt8→Nat
 | _,[]=>0
 | true,b::r=>lA (kZ b.toNat) r+1
 | false,b::r=>if gA (b::r) then lA true r+1 else if iA b.toNat then lA false r+1 else 0
theorem sY (p:Nat→Bool):∀ l:List UInt8,jW p l≤l.length
 | []=>Nat.le_refl _
 | b::r=>by
  have:=sY p r;unfold jW;split<;>simp<;>omega
theorem uW:∀ (f:Bool) (l:List UInt8),lA f l≤l.length
 | _,[]=>by simp [lA]
 | true,b::r=>by
  have:=uW (kZ b.toNat) r;simp [lA];omega
 | false,b::r=>by
  have h1:=uW true r;have h2:=uW false r;unfold lA;split
  ·simp;omega
  ·split<;>simp;omega
def runTo (p:Nat→Bool) (s:ByteArray) (k:Nat):Nat:=k+jW p (s.data.toList.drop k)
def skipTo (f:Bool) (s:ByteArray) (k:Nat):Nat:=k+lA f (s.data.toList.drop k)
theorem uX {p:Nat→Bool} {s:ByteArray} {k:Nat} (h:k≤s.size):runTo p s k≤s.size:=by
 have:=sY p (s.data.toList.drop k);rw [List.length_drop,cF] at this;unfold runTo;omega
theorem oJ (p:Nat→Bool) (s:ByteArray) (k:Nat):k≤runTo p s k:=by unfold runTo;omega
theorem sZ {f:Bool} {s:ByteArray} {k:Nat} (h:k≤s.size):skipTo f s k≤s.size:=by
 have:=uW f (s.data.toList.drop k);rw [List.length_drop,cF] at this;unfold skipTo;omega
theorem Bv (f:Bool) (s:ByteArray) (k:Nat):k≤skipTo f s k:=by unfold skipTo;omega
theorem lO {p:Nat→Bool} {s:ByteArray} {k:Nat} (h:s.size≤k):runTo p s k=k:=by
 unfold runTo;rw [hX s k h];rfl
theorem nI {p:Nat→Bool} {s:ByteArray} {k:Nat} (h:k<s.size) (hp:p s[k].toNat=true):runTo p s k=runTo p s (k+1):=by
 unfold runTo;rw [dU s k h];simp [jW,hp];omega
theorem mQ {p:Nat→Bool} {s:ByteArray} {k:Nat} (h:k<s.size) (hp:p s[k].toNat=false):runTo p s k=k:=by
 unfold runTo;rw [dU s k h];simp [jW,hp]
theorem Fh {p:Nat→Bool} {s:ByteArray} {k:Nat} (h:runTo p s k<s.size):p (s[runTo p s k]'h).toNat=false:=by
 have key:∀ (m k:Nat),s.size - k≤m→k≤s.size→∀ h:runTo p s k<s.size,p (s[runTo p s k]'h).toNat=false:=by
  intro m;induction m with
  | zero=>
   intro k hk hks h;have:=oJ p s k;omega
  | succ m ih=>
   intro k hk hks h;by_cases hkl:k<s.size
   ·cases hp:p s[k].toNat with
    | true=>
     have e:=nI hkl hp;have h':runTo p s (k+1)<s.size:=by rw [← e];exact h
     have:=ih (k+1) (by omega) (by omega) h';simp only [e];exact this
    | false=>
     have e:=mQ hkl hp;simp only [e];exact hp
   ·have:=oJ p s k;omega
 by_cases hks:k≤s.size
 ·exact key _ k (Nat.le_refl _) hks h
 ·have:=oJ p s k;omega
theorem tR {s:ByteArray} : ∀ (m k:Nat),s.size - k≤m→skipTo false s k=skipTo false s (runTo iA s k)
 | 0,k,hk=>by
  rw [lO (by omega)]
 | m+1,k,hk=>by
  by_cases hkl:k<s.size
  ·cases hp:iA s[k].toNat with
   | true=>
    rw [nI hkl hp,← tR m (k+1) (by omega)];have hs:gA (s[k]::s.data.toList.drop (k+1))=false:=by
     have:s[k].toNat≠47:=by simp [iA] at hp;omega
     cases s.data.toList.drop (k+1)<;>simp [gA,this]
    unfold skipTo;rw [dU s k hkl];simp [lA,hs,hp];omega
   | false=>rw [mQ hkl hp]
  ·rw [lO (by omega)]
theorem xE {s:ByteArray} : ∀ (m k:Nat),s.size - k≤m→skipTo true s k=skipTo false s (runTo kZ s k)
 | 0,k,hk=>by
  rw [lO (by omega)];unfold skipTo;rw [hX s k (by omega)];simp [lA]
 | m+1,k,hk=>by
  by_cases hkl:k<s.size
  ·cases hp:kZ s[k].toNat with
   | true=>
    rw [nI hkl hp,← xE m (k+1) (by omega)];unfold skipTo;rw [dU s k hkl];simp [lA,hp];omega
   | false=>
    rw [mQ hkl hp];have h10:s[k].toNat=10:=by simpa [kZ] using hp
    have hs:gA (s[k]::s.data.toList.drop (k+1))=false:=by
     cases s.data.toList.drop (k+1)<;>simp [gA,h10]
    unfold skipTo;rw [dU s k hkl];simp [lA,hs,h10,iA,kZ]
  ·rw [lO (by omega)];unfold skipTo;rw [hX s k (by omega)];simp [lA]
theorem yZ {s:ByteArray} {k:Nat} (h:gA (s.data.toList.drop k)=true):skipTo false s k=skipTo false s (runTo kZ s k):=by
 rw [← xE _ k (Nat.le_refl _)];have hkl:k<s.size:=by
  rcases Nat.lt_or_ge k s.size with h1 | h1
  ·exact h1
  ·rw [hX s k h1] at h;simp [gA] at h
 have h47:s[k].toNat=47:=by
  rw [dU s k hkl] at h;cases hd:s.data.toList.drop (k+1) with
  | nil=>rw [hd] at h;simp [gA] at h
  | cons c r=>rw [hd] at h;simp [gA] at h;exact h.1
 unfold skipTo;rw [dU s k hkl] at h ⊢;simp [lA,h,h47,kZ]
theorem Fi {s:ByteArray} {k:Nat} (h:gA (s.data.toList.drop k)=false) (hb:∀ h:k<s.size,iA s[k].toNat=false):skipTo false s k=k:=by
 by_cases hkl:k<s.size
 ·unfold skipTo;rw [dU s k hkl] at h ⊢;simp [lA,h,hb hkl]
 ·unfold skipTo;rw [hX s k (by omega)];simp [lA]
def sgnL:List (List UInt8):=[[60,61],[62,61],[61,61],[33,61],[38,38],[124,124],[40],[41],[123],[125],[91],[93],[44],[59],[58],[46],[43],[45],[42],[47],[37],[60],[62],[61],[33]]
def keyL:List (List UInt8):=[[99,111,117,110,116],[100,101,108,101,116,101],[101,108,115,101],[102,97,108,115,101],[102,110],[104,97,115],[105,102],[107,101,121],[108,101,110],[108,101,116],
 [110,117,108,108],[112,114,105,110,116],[112,114,111,116,111],[114,101,116,117,114,110],[115,101,116,112,114,111,116,111],[115,116,114],[116,104,105,115],[116,114,117,101],[119,104,105,108,101]]
def jG (l:List UInt8):Bool:=keyL.contains l
def gB:List (List UInt8)→List UInt8→List UInt8
 | [],_=>[]
 | x::r,l=>if x.isPrefixOf l then x else gB r l
def signL (l:List UInt8):List UInt8:=gB sgnL l
structure Tok where
 kind:Int
 text:ByteArray
 num:Int
 pl:Int
def Tok.zero:Tok:=⟨0,⟨#[]⟩,0,0⟩
def Tok.cells (t:Tok):List Value:=[.int .i64 t.kind,.string t.text,.int .i64 t.num,.int .i64 t.pl]
def Tok.val (t:Tok):Value:=.agg #[.int .i64 t.kind,.string t.text,.int .i64 t.num,.int .i64 t.pl]
abbrev TokOut:=Tok×Nat×Int
def jY (l:List UInt8) (k:Nat):TokOut:=
 if jG (l.take (jW fN l)) then (⟨2,⟨(l.take (jW fN l)).toArray⟩,0,k⟩,k+jW fN l,0)
 else if nameB (l.take (jW fN l)) then (⟨1,⟨(l.take (jW fN l)).toArray⟩,0,k⟩,k+jW fN l,0) else (Tok.zero,k,11)
def kM (l:List UInt8) (k:Nat):TokOut:=
 if (fA (l.take (jW bX l))).2=0 then (⟨3,⟨(digs (fA (l.take (jW bX l))).1).toArray⟩,(fA (l.take (jW bX l))).1,k⟩,k+jW bX l,0)
 else (Tok.zero,k,(fA (l.take (jW bX l))).2)
def mR (l:List UInt8) (k:Nat):TokOut:=
 if (takeOut l).2.2=0 then (if 256<(takeOut l).1.length then (Tok.zero,k,3) else (⟨4,⟨(takeOut l).1.toArray⟩,0,k⟩,k+(takeOut l).2.1,0))
 else (Tok.zero,k+(takeOut l).2.1,(takeOut l).2.2)
def nQ (l:List UInt8) (k:Nat):TokOut:=
 if signL l=[] then (Tok.zero,k,11) else (⟨5,⟨(signL l).toArray⟩,0,k⟩,k+(signL l).length,0)
def cO (l:List UInt8) (k:Nat):TokOut:=
 match l with
 | []=>(Tok.zero,k,11)
 | b::r=>if bW b.toNat then jY (b::r) k else if bX b.toNat then kM (b::r) k else if b.toNat=34 then mR (b::r) k else nQ (b::r) k
def jI (s:ByteArray):Nat→Nat→List Tok→List Tok×Nat×Int
 | 0,_,_=>([],0,0)
 | f+1,k,acc=>
  if s.size≤k then (acc++[⟨6,⟨#[]⟩,0,s.size⟩],0,0)
  else if (cO (s.data.toList.drop k) k).2.2≠0 then ([],(cO (s.data.toList.drop k) k).2.1,(cO (s.data.toList.drop k) k).2.2)
  else if acc.length=600 then ([],k,5)
  else jI s f (skipTo false s (cO (s.data.toList.drop k) k).2.1) (acc++[(cO (s.data.toList.drop k) k).1])
def tokOut (s:ByteArray):List Tok×Nat×Int:=if 2000<s.size then ([],0,3) else jI s (s.size+1) (skipTo false s 0) []
def cP (t:Tok):Bool:=
 if t.kind=3 then decide (0≤t.num)&&(decide (t.num≤4611686018427387903)&&(t.text.data.toList==digs t.num))
 else if t.num=0 then
  (if t.kind=1 then nameB t.text.data.toList&&!jG t.text.data.toList
  else if t.kind=2 then jG t.text.data.toList
  else if t.kind=4 then decide (t.text.size≤256)
  else if t.kind=5 then sgnL.contains t.text.data.toList
  else if t.kind=6 then t.text.data.toList.isEmpty else false)
 else false
def eL (t:Tok):List UInt8:=if t.kind=4 then kV t.text.data.toList else t.text.data.toList
end Go.Proofs.YtdnnmjhfidimcaaGreatDoor
