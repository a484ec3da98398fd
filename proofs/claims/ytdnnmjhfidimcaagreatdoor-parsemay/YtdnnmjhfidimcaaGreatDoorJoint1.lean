/- What Read answers, as a plain function. Decimal digits of a whole number: no program in sight. Strings as they are written: plain functions on lists of bytes: no program in sight. The document's tokens as plain functions. -/
import Derived.WalkKit
namespace Go.Proofs.YtdnnmjhfidimcaaGreatDoor
open Go.RowKit

def Oze (b:UInt8):Bool:=decide (48≤b.toNat)&&decide (b.toNat≤57)
def qzg (st:Int×Bool) (d:Int):Int×Bool:=if st.2=true∨(4611686018427387903 - d) / 10<st.1 then (st.1,true) else (10*st.1+d,false)
def rst (l:List UInt8):Int×Bool:=l.foldl (fun st b=>qzg st ((b.toNat:Int) - 48)) (0,false)
def ozk (st:Int×Bool):Int×Int:=if st.2 then (0,10) else (st.1,0)
def zzc (l:List UInt8):Int×Int:=if l.isEmpty||!l.all Oze then (0,11) else ozk (rst l)

theorem dzo {st:Int×Bool} {d:Int} (h0:0≤st.1) (h1:st.1≤4611686018427387903) (d0:0≤d) (_d9:d≤9):0≤(qzg st d).1∧(qzg st d).1≤4611686018427387903:=by
 unfold qzg;split
 ·exact⟨h0,h1⟩
 ·rename_i h;simp only [not_or] at h;constructor<;>simp only<;>omega

theorem fzp (l:List UInt8) (b:UInt8):rst (l++[b])=qzg (rst l) ((b.toNat:Int) - 48):=by simp [rst]

theorem Ezj:∀ (l:List UInt8) (st:Int×Bool),0≤st.1→st.1≤4611686018427387903→l.all Oze=true→
  0≤(l.foldl (fun st b=>qzg st ((b.toNat:Int) - 48)) st).1∧(l.foldl (fun st b=>qzg st ((b.toNat:Int) - 48)) st).1≤4611686018427387903
 | [],st,h0,h1,_=>⟨h0,h1⟩
 | b::l,st,h0,h1,h=>by
  rw [List.all_cons,Bool.and_eq_true] at h;have hb:=h.1;simp [Oze] at hb;have:=dzo (d:=(b.toNat:Int) - 48) h0 h1 (by omega) (by omega);exact Ezj l _ this.1 this.2 h.2

theorem Czl (l:List UInt8) (h:l.all Oze=true):0≤(rst l).1∧(rst l).1≤4611686018427387903:=
 Ezj l (0,false) (by decide) (by decide) h

theorem Tzm (l:List UInt8) (k:Nat) (h:k<l.length):l.take (k+1)=l.take k++[l[k]]:=by
 rw [List.take_succ_eq_append_getElem h]

theorem Kzk {l:List UInt8} {k:Nat} (h:k<l.length) (hb:Oze l[k]=false):zzc l=(0,11):=by
 have:l.all Oze=false:=by
  rw [List.all_eq_false];exact⟨l[k],List.getElem_mem h,by simp [hb]⟩
 simp [zzc,this]

theorem Fzj {l:List UInt8} (h:l≠[]) (hall:l.all Oze=true):zzc l=ozk (rst l):=by
 unfold zzc;rw [hall];cases l with
 | nil=>exact absurd rfl h
 | cons=>rfl

end Go.Proofs.YtdnnmjhfidimcaaGreatDoor

namespace Go.Proofs.YtdnnmjhfidimcaaGreatDoor
open Go.RowKit

def dec:Nat→Nat→List UInt8
 | 0,_=>[]
 | f+1,m=>if m<10 then [UInt8.ofNat (48+m)] else dec f (m / 10)++[UInt8.ofNat (48+m % 10)]

def digs (n:Int):List UInt8:=if n<0 then 45::dec 20 n.natAbs else dec 20 n.natAbs

theorem kzn {f r:Nat} (h:r<10):dec (f+1) r=[UInt8.ofNat (48+r)]:=by simp [dec,h]
theorem Ozs {f r:Nat} (h:10≤r):dec (f+1) r=dec f (r / 10)++[UInt8.ofNat (48+r % 10)]:=by
 simp [dec,show ¬ r<10 from by omega]

theorem pzk (r:Nat):(UInt8.ofNat (48+r % 10)).toNat=48+r % 10:=by
 rw [UInt8.toNat_ofNat'];omega

def Jzq (m j r:Nat) (acc:List UInt8):Prop:=
 acc.length=j∧j≤19∧r<10 ^ (19 - j)∧(if 1≤j∧r=0 then dec 20 m=acc else dec 20 m=dec (20 - j) r++acc)

theorem Kzq {m:Nat} (h:m<10 ^ 19):Jzq m 0 m []:=⟨rfl,by omega,h,by simp⟩

theorem Pzs {m j r:Nat} {acc:List UInt8} (h:Jzq m j r acc) (hr:0<r∨j=0):j<19:=by
 obtain⟨_,h2,h3,_⟩:=h;rcases hr with hr | hr
 ·rcases Nat.lt_or_ge j 19 with h | h
  ·exact h
  ·have:19 - j=0:=by omega
   rw [this] at h3;simp at h3;omega
 ·omega

theorem Wzt {m j r:Nat} {acc:List UInt8} (h:Jzq m j r acc) (hr:0<r∨j=0):Jzq m (j+1) (r / 10) (UInt8.ofNat (48+r % 10)::acc):=by
 have hlt:=Pzs h hr;obtain⟨h1,h2,h3,h4⟩:=h;have hn:¬ (1≤j∧r=0):=by omega
 rw [if_neg hn] at h4;have e1:19 - j=(18 - j)+1:=by omega
 have e2:20 - j=(19 - j)+1:=by omega
 refine⟨by simp [h1],by omega,?_,?_⟩
 ·rw [e1,Nat.pow_succ] at h3;rw [show 19 - (j+1)=18 - j from by omega];omega
 ·rw [e2] at h4;by_cases hs:r<10
  ·rw [if_pos ⟨by omega,by omega⟩,h4,kzn hs,Nat.mod_eq_of_lt hs];rfl
  ·rw [if_neg (by omega),h4,Ozs (by omega),show 20 - (j+1)=19 - j from by omega];simp

theorem Uzv {m j r:Nat} {acc:List UInt8} (h:Jzq m j r acc) (hr:r=0) (hj:j≠0):acc=dec 20 m:=by
 obtain⟨_,_,_,h4⟩:=h;rw [if_pos ⟨by omega,hr⟩] at h4;exact h4.symm

theorem Dzl:∀ (f m:Nat),(dec f m).length≤f
 | 0,_=>by simp [dec]
 | f+1,m=>by
  unfold dec;split
  ·simp
  ·have:=Dzl f (m / 10);simp;omega

theorem gzp (n:Int):(digs n).length≤21:=by
 have:=Dzl 20 n.natAbs;unfold digs;split
 ·simp;omega
 ·omega

theorem Lzk {m:Nat} (h:m<10):(UInt8.ofNat (48+m)).toNat=48+m:=by rw [UInt8.toNat_ofNat'];omega

end Go.Proofs.YtdnnmjhfidimcaaGreatDoor

namespace Go.Proofs.YtdnnmjhfidimcaaGreatDoor
open Go.RowKit

theorem lzn (s:ByteArray) (k:Nat) (h:k<s.size):s.data.toList.take (k+1)=s.data.toList.take k++[s[k]]:=by
 have hbs:k<s.data.toList.length:=by simpa using h
 rw [List.take_succ_eq_append_getElem hbs,Array.getElem_toList];rfl
theorem Szb (s:ByteArray) (k:Nat) (h:k<s.size):s.data.toList.drop k=s[k]::s.data.toList.drop (k+1):=by
 have hbs:k<s.data.toList.length:=by simpa using h
 rw [List.drop_eq_getElem_cons hbs,Array.getElem_toList];rfl
theorem fzb (s:ByteArray):s.data.toList.length=s.size:=by simp
theorem yzd (s:ByteArray) (k:Nat) (h:s.size≤k):s.data.toList.drop k=[]:=List.drop_of_length_le (by rw [fzb];exact h)
theorem hzp (s:ByteArray) (k:Nat) (h:s.size≤k):s.data.toList.take k=s.data.toList:=List.take_of_length_le (by rw [fzb];exact h)

def Wzd (n:Nat):Bool:=decide (32≤n∧n≤126∧n≠34∧n≠92)
def Ezl (n:Nat):UInt8:=UInt8.ofNat (if n<10 then 48+n else 87+n)
def qzf (c:UInt8):List UInt8:=
 if Wzd c.toNat then [c] else if c.toNat=34∨c.toNat=92 then [92,c] else [92,120,Ezl (c.toNat / 16),Ezl (c.toNat % 16)]
def fze (l:List UInt8):List UInt8:=l.flatMap qzf
def Rze (l:List UInt8):List UInt8:=34::(fze l++[34])

theorem Lzq (l:List UInt8) (c:UInt8):fze (l++[c])=fze l++qzf c:=by simp [fze]
theorem ezo (c:UInt8):(qzf c).length≤4:=by by_cases h1:Wzd c.toNat<;>by_cases h2:c.toNat=34∨c.toNat=92<;>simp [qzf,h1,h2]
theorem Xzt (c:UInt8):1≤(qzf c).length:=by by_cases h1:Wzd c.toNat<;>by_cases h2:c.toNat=34∨c.toNat=92<;>simp [qzf,h1,h2]
theorem szg:∀ l:List UInt8,(fze l).length≤4*l.length
 | []=>by simp [fze]
 | c::l=>by
  have:=szg l;have h:=ezo c;simp [fze] at this ⊢;omega
theorem Uzm (l:List UInt8):(Rze l).length≤4*l.length+2:=by
 have:=szg l;simp [Rze];omega

theorem Mzq {n:Nat} (h:n<16):(Ezl n).toNat=if n<10 then 48+n else 87+n:=by
 unfold Ezl;split<;>simp [UInt8.toNat_ofNat']<;>omega

theorem mzn (n:Nat) (h:n<(⟨#[48,49,50,51,52,53,54,55,56,57,97,98,99,100,101,102]⟩:ByteArray).size):(⟨#[48,49,50,51,52,53,54,55,56,57,97,98,99,100,101,102]⟩:ByteArray)[n]=Ezl n:=by
 have:∀ i:Fin 16,(#[48,49,50,51,52,53,54,55,56,57,97,98,99,100,101,102]:Array UInt8)[i.val]? = some (Ezl i.val):=by decide
 have h16:n<16:=h;have h1:=this ⟨n,h16⟩;have h2:(#[48,49,50,51,52,53,54,55,56,57,97,98,99,100,101,102]:Array UInt8)[n]? = some (#[48,49,50,51,52,53,54,55,56,57,97,98,99,100,101,102]:Array UInt8)[n]:=Array.getElem?_eq_getElem h16;rw [h2] at h1;exact Option.some.inj h1

def xzc (n:Nat):Nat:=
 if 48≤n∧n≤57 then n - 48 else if 97≤n∧n≤102 then n - 87 else if 65≤n∧n≤70 then n - 55 else 16
theorem Lzi (n:Nat):xzc n≤16:=by
 unfold xzc;split
 ·omega
 ·split
  ·omega
  ·split<;>omega
theorem Mzk {n:Nat} (h:n<16):xzc (Ezl n).toNat=n:=by
 rw [Mzq h];unfold xzc;by_cases h10:n<10
 ·rw [if_pos h10,if_pos (by omega)];omega
 ·rw [if_neg h10,if_neg (by omega),if_pos (by omega)];omega

def Lzd:List UInt8→Option UInt8×Nat
 | []=>(none,0)
 | c::r=>if Wzd c.toNat then (some c,1) else if c.toNat≠92 then (none,0) else
  match r with
  | []=>(none,1)
  | d::r2=>if d.toNat=34∨d.toNat=92 then (some d,2) else if d.toNat≠120 then (none,1) else
   match r2 with
   | []=>(none,2)
   | x::r3=>if xzc x.toNat=16 then (none,2) else
    match r3 with
    | []=>(none,3)
    | y::_=>if xzc y.toNat=16 then (none,3) else (some (UInt8.ofNat (16*xzc x.toNat+xzc y.toNat)),4)

def Czc:Nat→List UInt8→Nat→List UInt8→List UInt8×Nat×Int
 | 0,_,k,_=>([],k,11)
 | _+1,[],k,_=>([],k,11)
 | f+1,c::r,k,acc=>
  if c.toNat=34 then (acc,k+1,0) else
  match Lzd (c::r) with
  | (none,n)=>([],k+n,11)
  | (some b,n)=>Czc f ((c::r).drop n) (k+n) (acc++[b])

def takeOut:List UInt8→List UInt8×Nat×Int
 | []=>([],0,11)
 | c::r=>if c.toNat=34 then Czc (r.length+1) r 1 [] else ([],0,11)

theorem Gzj (l:List UInt8):(Lzd l).2≤l.length:=by
 unfold Lzd;split
 ·simp
 ·split
  ·simp
  ·split
   ·simp
   ·split
    ·simp
    ·split
     ·simp
     ·split
      ·simp
      ·split
       ·simp
       ·split
        ·simp
        ·split
         ·simp
         ·split<;>simp

theorem nzn {l:List UInt8} {b:UInt8} {n:Nat} (h:Lzd l=(some b,n)):1≤n:=by
 unfold Lzd at h;split at h
 ·simp at h
 ·split at h
  ·simp at h;omega
  ·split at h
   ·simp at h
   ·split at h
    ·simp at h
    ·split at h
     ·simp at h;omega
     ·split at h
      ·simp at h
      ·split at h
       ·simp at h
       ·split at h
        ·simp at h
        ·split at h
         ·simp at h
         ·split at h
          ·simp at h
          ·simp at h;omega

theorem Vzv {l:List UInt8} {b:UInt8} {n:Nat} (h:Lzd l=(some b,n)) (t:List UInt8):Lzd (l.take n++t)=(some b,n):=by
 unfold Lzd at h;split at h
 ·simp at h
 ·rename_i c r;split at h
  ·rename_i hp;simp at h;obtain⟨rfl,rfl⟩:=h;simp [Lzd,hp]
  ·rename_i hp;split at h
   ·simp at h
   ·rename_i h92;split at h
    ·simp at h
    ·rename_i d r2;split at h
     ·rename_i hd;simp at h;obtain⟨rfl,rfl⟩:=h;simp [Lzd,hp,h92,hd]
     ·rename_i hd;split at h
      ·simp at h
      ·rename_i hx;split at h
       ·simp at h
       ·rename_i x r3;split at h
        ·simp at h
        ·rename_i hwx;split at h
         ·simp at h
         ·rename_i y r4;split at h
          ·simp at h
          ·rename_i hwy;simp at h;obtain⟨rfl,rfl⟩:=h;simp [Lzd,hp,h92,hd,hx,hwx,hwy]

theorem izp {c:UInt8} {r:List UInt8} {b:UInt8} {n:Nat} (h:Lzd (c::r)=(some b,n)):c.toNat≠34:=by
 intro h34;have hp:Wzd 34=false:=by decide
 simp [Lzd,hp,h34] at h

theorem jzp (c:UInt8) (t:List UInt8):Lzd (qzf c++t)=(some c,(qzf c).length):=by
 have hc:=c.toNat_lt;unfold qzf;split
 ·rename_i hp;simp [Lzd,hp]
 ·rename_i hp;split
  ·rename_i hq;have h92:Wzd (92:UInt8).toNat=false:=by decide
   simp only [List.cons_append,List.nil_append,Lzd,h92];rw [if_neg (by decide),if_neg (by decide),if_pos hq];rfl
  ·rename_i hq;have h92:Wzd (92:UInt8).toNat=false:=by decide
   have w1:=Mzk (n:=c.toNat / 16) (by omega);have w2:=Mzk (n:=c.toNat % 16) (by omega);simp only [List.cons_append,List.nil_append,Lzd,h92,w1,w2];rw [if_neg (by decide),if_neg (by decide),if_neg (by decide),if_neg (by decide),if_neg (by omega),if_neg (by omega)];have:UInt8.ofNat (16*(c.toNat / 16)+c.toNat % 16)=c:=by
    rw [show 16*(c.toNat / 16)+c.toNat % 16=c.toNat from by omega];simp
   rw [this];rfl

theorem Nzq (c:UInt8):∃ h r,qzf c=h::r∧h.toNat≠34:=by
 unfold qzf;split
 ·rename_i hp;refine⟨c,[],rfl,?_⟩;simp [Wzd] at hp;omega
 ·split
  ·exact⟨92,[c],rfl,by decide⟩
  ·exact⟨92,_,rfl,by decide⟩

theorem Xzh {f:Nat} {c:UInt8} {r:List UInt8} {k:Nat} {acc:List UInt8} {b:UInt8} {n:Nat} (h:Lzd (c::r)=(some b,n)) :
  Czc (f+1) (c::r) k acc=Czc f ((c::r).drop n) (k+n) (acc++[b]):=by
 rw [Czc,if_neg (izp h),h]

theorem czj:∀ (l t:List UInt8) (f k:Nat) (acc:List UInt8),l.length<f→Czc f (fze l++34::t) k acc=(acc++l,k+(fze l).length+1,0)
 | [],t,f+1,k,acc,_=>by simp [fze,Czc]
 | c::l,t,f+1,k,acc,h=>by
  obtain⟨x,r,hq,hx⟩:=Nzq c;have e:fze (c::l)++34::t=qzf c++(fze l++34::t):=by simp [fze]
  have ho:=jzp c (fze l++34::t);rw [e];generalize hrest:fze l++34::t=rest at *
  rw [hq] at ho ⊢;rw [List.cons_append] at ho ⊢;rw [Xzh ho];have hd:(x::(r++rest)).drop (x::r).length=rest:=by
   rw [← List.cons_append,List.drop_left]
  rw [hd,← hrest,czj l t f _ _ (by simp at h;omega)];have hl:(fze (c::l)).length=(x::r).length+(fze l).length:=by rw [← hq];simp [fze]
  rw [hl];simp;omega

theorem Szh:∀ l:List UInt8,l.length≤(fze l).length
 | []=>by simp
 | c::l=>by
  have:=Szh l;have h:=Xzt c;simp [fze] at this ⊢;omega

theorem Fzl (l t:List UInt8):takeOut (Rze l++t)=(l,(Rze l).length,0):=by
 have hge:=Szh l;unfold Rze;simp only [List.cons_append,List.append_assoc,List.nil_append,takeOut];rw [if_pos (by decide),czj l t _ _ _ (by simp;omega)];simp;omega

theorem Yzh:∀ (f:Nat) (l:List UInt8) (k:Nat) (acc x:List UInt8) (n:Nat),Czc f l k acc=(x,n,0)→
  ∃ body rest y,l=body++34::rest∧n=k+body.length+1∧x=acc++y∧
   ∀ (g:Nat) (t:List UInt8) (k':Nat) (acc':List UInt8),body.length<g→∃ g',0<g'∧Czc g (body++t) k' acc'=Czc g' t (k'+body.length) (acc'++y)∧g≤g'+body.length
 | 0,l,k,acc,x,n,h=>by simp [Czc] at h
 | f+1,[],k,acc,x,n,h=>by simp [Czc] at h
 | f+1,c::r,k,acc,x,n,h=>by
  rw [Czc] at h;split at h
  ·rename_i h34;simp at h;refine⟨[],r,[],?_,by simp;omega,by simp [h.1],?_⟩
   ·have:c=34:=UInt8.toNat_inj.1 h34;simp [this]
   ·intro g t k' acc' hg;exact⟨g,hg,by simp,by simp⟩
  ·split at h
   ·simp at h
   ·rename_i b m ho;obtain⟨body,rest,y,hl,hn,hx,hon⟩:=Yzh f _ _ _ _ _ h;have hm:=Gzj (c::r);rw [ho] at hm;have hm1:=nzn ho;refine⟨(c::r).take m++body,rest,b::y,?_,?_,by simp [hx],?_⟩
    ·rw [List.append_assoc,← hl,List.take_append_drop]
    ·simp only [List.length_append,List.length_take];simp only [] at hm;omega
    ·intro g t k' acc' hg;simp only [List.length_append,List.length_take] at hg;simp only [] at hm;obtain⟨g0,rfl⟩:∃ g0,g=g0+1:=⟨g - 1,by omega⟩
     obtain⟨g',hg',he,hle⟩:=hon g0 t (k'+m) (acc'++[b]) (by omega);refine⟨g',hg',?_,?_⟩
     ·have h1:=Vzv ho (body++t);obtain⟨m0,rfl⟩:∃ m0,m=m0+1:=⟨m - 1,by omega⟩
      rw [List.take_succ_cons,List.cons_append] at h1;rw [List.take_succ_cons,List.cons_append,List.cons_append,List.append_assoc,Xzh h1];have hd:(c::(r.take m0++(body++t))).drop (m0+1)=body++t:=by
       rw [List.drop_succ_cons];have hl0:(r.take m0).length=m0:=by simp at hm ⊢;omega
       have:=List.drop_left (l₁:=r.take m0) (l₂:=body++t);rw [hl0] at this;exact this
      rw [hd,he];simp;have hl0:min m0 r.length=m0:=by simp at hm;omega
      rw [hl0];congr 1;omega
     ·simp only [List.length_append,List.length_take];omega

theorem Gzl {l x:List UInt8} {n:Nat} (h:takeOut l=(x,n,0)):∃ r,l=34::r∧Czc (r.length+1) r 1 []=(x,n,0):=by
 unfold takeOut at h;split at h
 ·simp at h
 ·split at h
  ·rename_i c r h34;exact⟨r,by rw [show c=34 from UInt8.toNat_inj.1 h34],h⟩
  ·simp at h

theorem Hzj {l x:List UInt8} {n:Nat} (h:takeOut l=(x,n,0)) :
  1≤n∧n≤l.length∧takeOut (l.take n)=(x,n,0)∧takeOut (l.take (n - 1))=([],n - 1,11):=by
 obtain⟨r,rfl,hg⟩:=Gzl h;obtain⟨body,rest,y,rfl,rfl,rfl,hon⟩:=Yzh _ _ _ _ _ _ hg;have t1:(34::(body++34::rest)).take (1+body.length+1)=34::(body++[34]):=by
  rw [show 1+body.length+1=(body.length+1)+1 from by omega,List.take_succ_cons,List.take_append,List.take_of_length_le (by omega)];simp
 have t2:(34::(body++34::rest)).take (1+body.length+1 - 1)=34::body:=by
  rw [show 1+body.length+1 - 1=body.length+1 from by omega,List.take_succ_cons,List.take_left]
 refine⟨by omega,by simp;omega,?_,?_⟩
 ·rw [t1];simp only [takeOut];rw [if_pos (by decide)];obtain⟨g',hg',he,_⟩:=hon ((body++[34]).length+1) [34] 1 [] (by simp;omega);obtain⟨g0,rfl⟩:∃ g0,g'=g0+1:=⟨g' - 1,by omega⟩
  rw [he,Czc,if_pos (by decide)];simp
 ·rw [t2];simp only [takeOut];rw [if_pos (by decide)];obtain⟨g',hg',he,_⟩:=hon (body.length+1) [] 1 [] (by omega);obtain⟨g0,rfl⟩:∃ g0,g'=g0+1:=⟨g' - 1,by omega⟩
  rw [List.append_nil] at he;rw [he,Czc];simp

theorem Hzl:∀ (f:Nat) (l:List UInt8) (k:Nat) (acc:List UInt8),(Czc f l k acc).2.2=0∨((Czc f l k acc).2.2=11∧(Czc f l k acc).1=[]∧(Czc f l k acc).2.1≤k+l.length)
 | 0,l,k,acc=>by simp [Czc]
 | f+1,[],k,acc=>by simp [Czc]
 | f+1,c::r,k,acc=>by
  rw [Czc];split
  ·simp
  ·split
   ·rename_i n ho;have:=Gzj (c::r);rw [ho] at this;right;simp at this ⊢;omega
   ·rename_i b n ho;have hn:=Gzj (c::r);rw [ho] at hn;rcases Hzl f ((c::r).drop n) (k+n) (acc++[b]) with h | ⟨h1,h2,h3⟩
    ·exact Or.inl h
    ·refine Or.inr ⟨h1,h2,?_⟩;simp at hn h3 ⊢;omega

theorem Nzk (l:List UInt8):(takeOut l).2.2=0∨((takeOut l).2.2=11∧(takeOut l).1=[]∧(takeOut l).2.1≤l.length):=by
 unfold takeOut;split
 ·simp
 ·split
  ·rename_i c r _;rcases Hzl (r.length+1) r 1 [] with h | ⟨h1,h2,h3⟩
   ·exact Or.inl h
   ·exact Or.inr ⟨h1,h2,by simp;omega⟩
  ·simp

def Xza (n:Nat):Bool:=decide ((97≤n∧n≤122)∨(65≤n∧n≤90)∨n=95)
def Yza (n:Nat):Bool:=decide (48≤n∧n≤57)
def nameB:List UInt8→Bool
 | []=>false
 | c::r=>Xza c.toNat&&r.all (fun x=>Xza x.toNat||Yza x.toNat)&&decide (r.length≤11)

end Go.Proofs.YtdnnmjhfidimcaaGreatDoor

namespace Go.Proofs.YtdnnmjhfidimcaaGreatDoor
open Go.RowKit

def zzd (n:Nat):Bool:=decide (n=32∨n=10∨n=9)
def Vze (n:Nat):Bool:=decide (n≠10)
def Kzc (n:Nat):Bool:=Xza n||Yza n

def tze (p:Nat→Bool):List UInt8→Nat
 | []=>0
 | b::r=>if p b.toNat then tze p r+1 else 0

def Wzc:List UInt8→Bool
 | a::b::_=>decide (a.toNat=47∧b.toNat=47)
 | _=>false

def Wze:Bool→List UInt8→Nat
 | _,[]=>0
 | true,b::r=>Wze (Vze b.toNat) r+1
 | false,b::r=>if Wzc (b::r) then Wze true r+1 else if zzd b.toNat then Wze false r+1 else 0

theorem Mzi (p:Nat→Bool):∀ l:List UInt8,tze p l≤l.length
 | []=>Nat.le_refl _
 | b::r=>by
  have:=Mzi p r;unfold tze;split<;>simp<;>omega

theorem Izj:∀ (f:Bool) (l:List UInt8),Wze f l≤l.length
 | _,[]=>by simp [Wze]
 | true,b::r=>by
  have:=Izj (Vze b.toNat) r;simp [Wze];omega
 | false,b::r=>by
  have h1:=Izj true r;have h2:=Izj false r;unfold Wze;split
  ·simp;omega
  ·split<;>simp;omega

def runTo (p:Nat→Bool) (s:ByteArray) (k:Nat):Nat:=k+tze p (s.data.toList.drop k)
def skipTo (f:Bool) (s:ByteArray) (k:Nat):Nat:=k+Wze f (s.data.toList.drop k)

theorem Jzj {p:Nat→Bool} {s:ByteArray} {k:Nat} (h:k≤s.size):runTo p s k≤s.size:=by
 have:=Mzi p (s.data.toList.drop k);rw [List.length_drop,fzb] at this;unfold runTo;omega
theorem Bzg (p:Nat→Bool) (s:ByteArray) (k:Nat):k≤runTo p s k:=by unfold runTo;omega
theorem Nzi {f:Bool} {s:ByteArray} {k:Nat} (h:k≤s.size):skipTo f s k≤s.size:=by
 have:=Izj f (s.data.toList.drop k);rw [List.length_drop,fzb] at this;unfold skipTo;omega
theorem ozn (f:Bool) (s:ByteArray) (k:Nat):k≤skipTo f s k:=by unfold skipTo;omega

theorem jzf {p:Nat→Bool} {s:ByteArray} {k:Nat} (h:s.size≤k):runTo p s k=k:=by
 unfold runTo;rw [yzd s k h];rfl
theorem bzg {p:Nat→Bool} {s:ByteArray} {k:Nat} (h:k<s.size) (hp:p s[k].toNat=true):runTo p s k=runTo p s (k+1):=by
 unfold runTo;rw [Szb s k h];simp [tze,hp];omega
theorem Kzf {p:Nat→Bool} {s:ByteArray} {k:Nat} (h:k<s.size) (hp:p s[k].toNat=false):runTo p s k=k:=by
 unfold runTo;rw [Szb s k h];simp [tze,hp]
theorem Ozq {p:Nat→Bool} {s:ByteArray} {k:Nat} (h:runTo p s k<s.size):p (s[runTo p s k]'h).toNat=false:=by
 have key:∀ (m k:Nat),s.size - k≤m→k≤s.size→∀ h:runTo p s k<s.size,p (s[runTo p s k]'h).toNat=false:=by
  intro m;induction m with
  | zero=>
   intro k hk hks h;have:=Bzg p s k;omega
  | succ m ih=>
   intro k hk hks h;by_cases hkl:k<s.size
   ·cases hp:p s[k].toNat with
    | true=>
     have e:=bzg hkl hp;have h':runTo p s (k+1)<s.size:=by rw [← e];exact h
     have:=ih (k+1) (by omega) (by omega) h';simp only [e];exact this
    | false=>
     have e:=Kzf hkl hp;simp only [e];exact hp
   ·have:=Bzg p s k;omega
 by_cases hks:k≤s.size
 ·exact key _ k (Nat.le_refl _) hks h
 ·have:=Bzg p s k;omega

theorem dzj {s:ByteArray} : ∀ (m k:Nat),s.size - k≤m→skipTo false s k=skipTo false s (runTo zzd s k)
 | 0,k,hk=>by
  rw [jzf (by omega)]
 | m+1,k,hk=>by
  by_cases hkl:k<s.size
  ·cases hp:zzd s[k].toNat with
   | true=>
    rw [bzg hkl hp,← dzj m (k+1) (by omega)];have hs:Wzc (s[k]::s.data.toList.drop (k+1))=false:=by
     have:s[k].toNat≠47:=by simp [zzd] at hp;omega
     cases s.data.toList.drop (k+1)<;>simp [Wzc,this]
    unfold skipTo;rw [Szb s k hkl];simp [Wze,hs,hp];omega
   | false=>rw [Kzf hkl hp]
  ·rw [jzf (by omega)]

theorem Ozk {s:ByteArray} : ∀ (m k:Nat),s.size - k≤m→skipTo true s k=skipTo false s (runTo Vze s k)
 | 0,k,hk=>by
  rw [jzf (by omega)];unfold skipTo;rw [yzd s k (by omega)];simp [Wze]
 | m+1,k,hk=>by
  by_cases hkl:k<s.size
  ·cases hp:Vze s[k].toNat with
   | true=>
    rw [bzg hkl hp,← Ozk m (k+1) (by omega)];unfold skipTo;rw [Szb s k hkl];simp [Wze,hp];omega
   | false=>
    rw [Kzf hkl hp];have h10:s[k].toNat=10:=by simpa [Vze] using hp
    have hs:Wzc (s[k]::s.data.toList.drop (k+1))=false:=by
     cases s.data.toList.drop (k+1)<;>simp [Wzc,h10]
    unfold skipTo;rw [Szb s k hkl];simp [Wze,hs,h10,zzd,Vze]
  ·rw [jzf (by omega)];unfold skipTo;rw [yzd s k (by omega)];simp [Wze]

theorem Izl {s:ByteArray} {k:Nat} (h:Wzc (s.data.toList.drop k)=true):skipTo false s k=skipTo false s (runTo Vze s k):=by
 rw [← Ozk _ k (Nat.le_refl _)];have hkl:k<s.size:=by
  rcases Nat.lt_or_ge k s.size with h1 | h1
  ·exact h1
  ·rw [yzd s k h1] at h;simp [Wzc] at h
 have h47:s[k].toNat=47:=by
  rw [Szb s k hkl] at h;cases hd:s.data.toList.drop (k+1) with
  | nil=>rw [hd] at h;simp [Wzc] at h
  | cons c r=>rw [hd] at h;simp [Wzc] at h;exact h.1
 unfold skipTo;rw [Szb s k hkl] at h ⊢;simp [Wze,h,h47,Vze]

theorem Pzq {s:ByteArray} {k:Nat} (h:Wzc (s.data.toList.drop k)=false) (hb:∀ h:k<s.size,zzd s[k].toNat=false):skipTo false s k=k:=by
 by_cases hkl:k<s.size
 ·unfold skipTo;rw [Szb s k hkl] at h ⊢;simp [Wze,h,hb hkl]
 ·unfold skipTo;rw [yzd s k (by omega)];simp [Wze]

def sgnL:List (List UInt8):=[[60,61],[62,61],[61,61],[33,61],[38,38],[124,124],[40],[41],[123],[125],[91],[93],[44],[59],[58],[46],[43],[45],[42],[47],[37],[60],[62],[61],[33]]
def keyL:List (List UInt8):=[[99,111,117,110,116],[100,101,108,101,116,101],[101,108,115,101],[102,97,108,115,101],[102,110],[104,97,115],[105,102],[107,101,121],[108,101,110],[108,101,116],
 [110,117,108,108],[112,114,105,110,116],[112,114,111,116,111],[114,101,116,117,114,110],[115,101,116,112,114,111,116,111],[115,116,114],[116,104,105,115],[116,114,117,101],[119,104,105,108,101]]
def eze (l:List UInt8):Bool:=keyL.contains l
def Xzc:List (List UInt8)→List UInt8→List UInt8
 | [],_=>[]
 | x::r,l=>if x.isPrefixOf l then x else Xzc r l
def signL (l:List UInt8):List UInt8:=Xzc sgnL l

structure Tok where
 kind:Int
 text:ByteArray
 num:Int
 pl:Int
def Tok.zero:Tok:=⟨0,⟨#[]⟩,0,0⟩
def Tok.cells (t:Tok):List Value:=[.int .i64 t.kind,.string t.text,.int .i64 t.num,.int .i64 t.pl]
def Tok.val (t:Tok):Value:=.agg #[.int .i64 t.kind,.string t.text,.int .i64 t.num,.int .i64 t.pl]

abbrev TokOut:=Tok×Nat×Int
def vze (l:List UInt8) (k:Nat):TokOut:=
 if eze (l.take (tze Kzc l)) then (⟨2,⟨(l.take (tze Kzc l)).toArray⟩,0,k⟩,k+tze Kzc l,0)
 else if nameB (l.take (tze Kzc l)) then (⟨1,⟨(l.take (tze Kzc l)).toArray⟩,0,k⟩,k+tze Kzc l,0) else (Tok.zero,k,11)
def Ize (l:List UInt8) (k:Nat):TokOut:=
 if (zzc (l.take (tze Yza l))).2=0 then (⟨3,⟨(digs (zzc (l.take (tze Yza l))).1).toArray⟩,(zzc (l.take (tze Yza l))).1,k⟩,k+tze Yza l,0)
 else (Tok.zero,k,(zzc (l.take (tze Yza l))).2)
def Lzf (l:List UInt8) (k:Nat):TokOut:=
 if (takeOut l).2.2=0 then (if 256<(takeOut l).1.length then (Tok.zero,k,3) else (⟨4,⟨(takeOut l).1.toArray⟩,0,k⟩,k+(takeOut l).2.1,0))
 else (Tok.zero,k+(takeOut l).2.1,(takeOut l).2.2)
def jzg (l:List UInt8) (k:Nat):TokOut:=
 if signL l=[] then (Tok.zero,k,11) else (⟨5,⟨(signL l).toArray⟩,0,k⟩,k+(signL l).length,0)
def qzb (l:List UInt8) (k:Nat):TokOut:=
 match l with
 | []=>(Tok.zero,k,11)
 | b::r=>if Xza b.toNat then vze (b::r) k else if Yza b.toNat then Ize (b::r) k else if b.toNat=34 then Lzf (b::r) k else jzg (b::r) k

def gze (s:ByteArray):Nat→Nat→List Tok→List Tok×Nat×Int
 | 0,_,_=>([],0,0)
 | f+1,k,acc=>
  if s.size≤k then (acc++[⟨6,⟨#[]⟩,0,s.size⟩],0,0)
  else if (qzb (s.data.toList.drop k) k).2.2≠0 then ([],(qzb (s.data.toList.drop k) k).2.1,(qzb (s.data.toList.drop k) k).2.2)
  else if acc.length=600 then ([],k,5)
  else gze s f (skipTo false s (qzb (s.data.toList.drop k) k).2.1) (acc++[(qzb (s.data.toList.drop k) k).1])
def tokOut (s:ByteArray):List Tok×Nat×Int:=if 2000<s.size then ([],0,3) else gze s (s.size+1) (skipTo false s 0) []

def rzb (t:Tok):Bool:=
 if t.kind=3 then decide (0≤t.num)&&(decide (t.num≤4611686018427387903)&&(t.text.data.toList==digs t.num))
 else if t.num=0 then
  (if t.kind=1 then nameB t.text.data.toList&&!eze t.text.data.toList
  else if t.kind=2 then eze t.text.data.toList
  else if t.kind=4 then decide (t.text.size≤256)
  else if t.kind=5 then sgnL.contains t.text.data.toList
  else if t.kind=6 then t.text.data.toList.isEmpty else false)
 else false
def kzc (t:Tok):List UInt8:=if t.kind=4 then Rze t.text.data.toList else t.text.data.toList
end Go.Proofs.YtdnnmjhfidimcaaGreatDoor
