/- Strings as they are written: plain functions on lists of bytes: no program in sight. -/
import Derived.WalkKit
namespace Go.Proofs.YtdnnmjhfidimcaaGreatDoor
open Go.RowKit
theorem Bs (s:ByteArray) (k:Nat) (h:k<s.size):s.data.toList.take (k+1)=s.data.toList.take k++[s[k]]:=by
 have hbs:k<s.data.toList.length:=by simpa using h
 rw [List.take_succ_eq_append_getElem hbs,Array.getElem_toList];rfl
theorem dU (s:ByteArray) (k:Nat) (h:k<s.size):s.data.toList.drop k=s[k]::s.data.toList.drop (k+1):=by
 have hbs:k<s.data.toList.length:=by simpa using h
 rw [List.drop_eq_getElem_cons hbs,Array.getElem_toList];rfl
theorem cF (s:ByteArray):s.data.toList.length=s.size:=by simp
theorem hX (s:ByteArray) (k:Nat) (h:s.size≤k):s.data.toList.drop k=[]:=List.drop_of_length_le (by rw [cF];exact h)
theorem Dw (s:ByteArray) (k:Nat) (h:s.size≤k):s.data.toList.take k=s.data.toList:=List.take_of_length_le (by rw [cF];exact h)
def iY (n:Nat):Bool:=decide (32≤n∧n≤126∧n≠34∧n≠92)
def yV (n:Nat):UInt8:=UInt8.ofNat (if n<10 then 48+n else 87+n)
def lV (c:UInt8):List UInt8:=
 if iY c.toNat then [c] else if c.toNat=34∨c.toNat=92 then [92,c] else [92,120,yV (c.toNat / 16),yV (c.toNat % 16)]
def jH (l:List UInt8):List UInt8:=l.flatMap lV
def kV (l:List UInt8):List UInt8:=34::(jH l++[34])
theorem Fe (l:List UInt8) (c:UInt8):jH (l++[c])=jH l++lV c:=by simp [jH]
theorem Cq (c:UInt8):(lV c).length≤4:=by by_cases h1:iY c.toNat<;>by_cases h2:c.toNat=34∨c.toNat=92<;>simp [lV,h1,h2]
theorem Jw (c:UInt8):1≤(lV c).length:=by by_cases h1:iY c.toNat<;>by_cases h2:c.toNat=34∨c.toNat=92<;>simp [lV,h1,h2]
theorem oA:∀ l:List UInt8,(jH l).length≤4*l.length
 | []=>by simp [jH]
 | c::l=>by
  have:=oA l;have h:=Cq c;simp [jH] at this ⊢;omega
theorem Ba (l:List UInt8):(kV l).length≤4*l.length+2:=by
 have:=oA l;simp [kV];omega
theorem Ff {n:Nat} (h:n<16):(yV n).toNat=if n<10 then 48+n else 87+n:=by
 unfold yV;split<;>simp [UInt8.toNat_ofNat']<;>omega
theorem Bt (n:Nat) (h:n<(⟨#[48,49,50,51,52,53,54,55,56,57,97,98,99,100,101,102]⟩:ByteArray).size):(⟨#[48,49,50,51,52,53,54,55,56,57,97,98,99,100,101,102]⟩:ByteArray)[n]=yV n:=by
 have:∀ i:Fin 16,(#[48,49,50,51,52,53,54,55,56,57,97,98,99,100,101,102]:Array UInt8)[i.val]? = some (yV i.val):=by decide
 have h16:n<16:=h;have h1:=this ⟨n,h16⟩;have h2:(#[48,49,50,51,52,53,54,55,56,57,97,98,99,100,101,102]:Array UInt8)[n]? = some (#[48,49,50,51,52,53,54,55,56,57,97,98,99,100,101,102]:Array UInt8)[n]:=Array.getElem?_eq_getElem h16;rw [h2] at h1;exact Option.some.inj h1
def eY (n:Nat):Nat:=
 if 48≤n∧n≤57 then n - 48 else if 97≤n∧n≤102 then n - 87 else if 65≤n∧n≤70 then n - 55 else 16
theorem sX (n:Nat):eY n≤16:=by
 unfold eY;split
 ·omega
 ·split
  ·omega
  ·split<;>omega
theorem xC {n:Nat} (h:n<16):eY (yV n).toNat=n:=by
 rw [Ff h];unfold eY;by_cases h10:n<10
 ·rw [if_pos h10,if_pos (by omega)];omega
 ·rw [if_neg h10,if_neg (by omega),if_pos (by omega)];omega
def iM:List UInt8→Option UInt8×Nat
 | []=>(none,0)
 | c::r=>if iY c.toNat then (some c,1) else if c.toNat≠92 then (none,0) else
  match r with
  | []=>(none,1)
  | d::r2=>if d.toNat=34∨d.toNat=92 then (some d,2) else if d.toNat≠120 then (none,1) else
   match r2 with
   | []=>(none,2)
   | x::r3=>if eY x.toNat=16 then (none,2) else
    match r3 with
    | []=>(none,3)
    | y::_=>if eY y.toNat=16 then (none,3) else (some (UInt8.ofNat (16*eY x.toNat+eY y.toNat)),4)
def fE:Nat→List UInt8→Nat→List UInt8→List UInt8×Nat×Int
 | 0,_,k,_=>([],k,11)
 | _+1,[],k,_=>([],k,11)
 | f+1,c::r,k,acc=>
  if c.toNat=34 then (acc,k+1,0) else
  match iM (c::r) with
  | (none,n)=>([],k+n,11)
  | (some b,n)=>fE f ((c::r).drop n) (k+n) (acc++[b])
def takeOut:List UInt8→List UInt8×Nat×Int
 | []=>([],0,11)
 | c::r=>if c.toNat=34 then fE (r.length+1) r 1 [] else ([],0,11)
theorem uU (l:List UInt8):(iM l).2≤l.length:=by
 unfold iM;split
 ·simp
 ·split
  ·simp
  ·split
   ·simp
   ·split
    ·simp
    ·split
     ·simp
     ·split
      ·simp
      ·split
       ·simp
       ·split
        ·simp
        ·split
         ·simp
         ·split<;>simp
theorem Bu {l:List UInt8} {b:UInt8} {n:Nat} (h:iM l=(some b,n)):1≤n:=by
 unfold iM at h;split at h
 ·simp at h
 ·split at h
  ·simp at h;omega
  ·split at h
   ·simp at h
   ·split at h
    ·simp at h
    ·split at h
     ·simp at h;omega
     ·split at h
      ·simp at h
      ·split at h
       ·simp at h
       ·split at h
        ·simp at h
        ·split at h
         ·simp at h
         ·split at h
          ·simp at h
          ·simp at h;omega
theorem LB {l:List UInt8} {b:UInt8} {n:Nat} (h:iM l=(some b,n)) (t:List UInt8):iM (l.take n++t)=(some b,n):=by
 unfold iM at h;split at h
 ·simp at h
 ·rename_i c r;split at h
  ·rename_i hp;simp at h;obtain⟨rfl,rfl⟩:=h;simp [iM,hp]
  ·rename_i hp;split at h
   ·simp at h
   ·rename_i h92;split at h
    ·simp at h
    ·rename_i d r2;split at h
     ·rename_i hd;simp at h;obtain⟨rfl,rfl⟩:=h;simp [iM,hp,h92,hd]
     ·rename_i hd;split at h
      ·simp at h
      ·rename_i hx;split at h
       ·simp at h
       ·rename_i x r3;split at h
        ·simp at h
        ·rename_i hwx;split at h
         ·simp at h
         ·rename_i y r4;split at h
          ·simp at h
          ·rename_i hwy;simp at h;obtain⟨rfl,rfl⟩:=h;simp [iM,hp,h92,hd,hx,hwx,hwy]
theorem Dx {c:UInt8} {r:List UInt8} {b:UInt8} {n:Nat} (h:iM (c::r)=(some b,n)):c.toNat≠34:=by
 intro h34;have hp:iY 34=false:=by decide
 simp [iM,hp,h34] at h
theorem Dy (c:UInt8) (t:List UInt8):iM (lV c++t)=(some c,(lV c).length):=by
 have hc:=c.toNat_lt;unfold lV;split
 ·rename_i hp;simp [iM,hp]
 ·rename_i hp;split
  ·rename_i hq;have h92:iY (92:UInt8).toNat=false:=by decide
   simp only [List.cons_append,List.nil_append,iM,h92];rw [if_neg (by decide),if_neg (by decide),if_pos hq];rfl
  ·rename_i hq;have h92:iY (92:UInt8).toNat=false:=by decide
   have w1:=xC (n:=c.toNat / 16) (by omega);have w2:=xC (n:=c.toNat % 16) (by omega);simp only [List.cons_append,List.nil_append,iM,h92,w1,w2];rw [if_neg (by decide),if_neg (by decide),if_neg (by decide),if_neg (by decide),if_neg (by omega),if_neg (by omega)];have:UInt8.ofNat (16*(c.toNat / 16)+c.toNat % 16)=c:=by
    rw [show 16*(c.toNat / 16)+c.toNat % 16=c.toNat from by omega];simp
   rw [this];rfl
theorem Fg (c:UInt8):∃ h r,lV c=h::r∧h.toNat≠34:=by
 unfold lV;split
 ·rename_i hp;refine⟨c,[],rfl,?_⟩;simp [iY] at hp;omega
 ·split
  ·exact⟨92,[c],rfl,by decide⟩
  ·exact⟨92,_,rfl,by decide⟩
theorem rJ {f:Nat} {c:UInt8} {r:List UInt8} {k:Nat} {acc:List UInt8} {b:UInt8} {n:Nat} (h:iM (c::r)=(some b,n)) :
  fE (f+1) (c::r) k acc=fE f ((c::r).drop n) (k+n) (acc++[b]):=by
 rw [fE,if_neg (Dx h),h]
theorem tQ:∀ (l t:List UInt8) (f k:Nat) (acc:List UInt8),l.length<f→fE f (jH l++34::t) k acc=(acc++l,k+(jH l).length+1,0)
 | [],t,f+1,k,acc,_=>by simp [jH,fE]
 | c::l,t,f+1,k,acc,h=>by
  obtain⟨x,r,hq,hx⟩:=Fg c;have e:jH (c::l)++34::t=lV c++(jH l++34::t):=by simp [jH]
  have ho:=Dy c (jH l++34::t);rw [e];generalize hrest:jH l++34::t=rest at *
  rw [hq] at ho ⊢;rw [List.cons_append] at ho ⊢;rw [rJ ho];have hd:(x::(r++rest)).drop (x::r).length=rest:=by
   rw [← List.cons_append,List.drop_left]
  rw [hd,← hrest,tQ l t f _ _ (by simp at h;omega)];have hl:(jH (c::l)).length=(x::r).length+(jH l).length:=by rw [← hq];simp [jH]
  rw [hl];simp;omega
theorem rB:∀ l:List UInt8,l.length≤(jH l).length
 | []=>by simp
 | c::l=>by
  have:=rB l;have h:=Jw c;simp [jH] at this ⊢;omega
theorem yW (l t:List UInt8):takeOut (kV l++t)=(l,(kV l).length,0):=by
 have hge:=rB l;unfold kV;simp only [List.cons_append,List.append_assoc,List.nil_append,takeOut];rw [if_pos (by decide),tQ l t _ _ _ (by simp;omega)];simp;omega
theorem rK:∀ (f:Nat) (l:List UInt8) (k:Nat) (acc x:List UInt8) (n:Nat),fE f l k acc=(x,n,0)→
  ∃ body rest y,l=body++34::rest∧n=k+body.length+1∧x=acc++y∧
   ∀ (g:Nat) (t:List UInt8) (k':Nat) (acc':List UInt8),body.length<g→∃ g',0<g'∧fE g (body++t) k' acc'=fE g' t (k'+body.length) (acc'++y)∧g≤g'+body.length
 | 0,l,k,acc,x,n,h=>by simp [fE] at h
 | f+1,[],k,acc,x,n,h=>by simp [fE] at h
 | f+1,c::r,k,acc,x,n,h=>by
  rw [fE] at h;split at h
  ·rename_i h34;simp at h;refine⟨[],r,[],?_,by simp;omega,by simp [h.1],?_⟩
   ·have:c=34:=UInt8.toNat_inj.1 h34;simp [this]
   ·intro g t k' acc' hg;exact⟨g,hg,by simp,by simp⟩
  ·split at h
   ·simp at h
   ·rename_i b m ho;obtain⟨body,rest,y,hl,hn,hx,hon⟩:=rK f _ _ _ _ _ h;have hm:=uU (c::r);rw [ho] at hm;have hm1:=Bu ho;refine⟨(c::r).take m++body,rest,b::y,?_,?_,by simp [hx],?_⟩
    ·rw [List.append_assoc,← hl,List.take_append_drop]
    ·simp only [List.length_append,List.length_take];simp only [] at hm;omega
    ·intro g t k' acc' hg;simp only [List.length_append,List.length_take] at hg;simp only [] at hm;obtain⟨g0,rfl⟩:∃ g0,g=g0+1:=⟨g - 1,by omega⟩
     obtain⟨g',hg',he,hle⟩:=hon g0 t (k'+m) (acc'++[b]) (by omega);refine⟨g',hg',?_,?_⟩
     ·have h1:=LB ho (body++t);obtain⟨m0,rfl⟩:∃ m0,m=m0+1:=⟨m - 1,by omega⟩
      rw [List.take_succ_cons,List.cons_append] at h1;rw [List.take_succ_cons,List.cons_append,List.cons_append,List.append_assoc,rJ h1];have hd:(c::(r.take m0++(body++t))).drop (m0+1)=body++t:=by
       rw [List.drop_succ_cons];have hl0:(r.take m0).length=m0:=by simp at hm ⊢;omega
       have:=List.drop_left (l₁:=r.take m0) (l₂:=body++t);rw [hl0] at this;exact this
      rw [hd,he];simp;have hl0:min m0 r.length=m0:=by simp at hm;omega
      rw [hl0];congr 1;omega
     ·simp only [List.length_append,List.length_take];omega
theorem yX {l x:List UInt8} {n:Nat} (h:takeOut l=(x,n,0)):∃ r,l=34::r∧fE (r.length+1) r 1 []=(x,n,0):=by
 unfold takeOut at h;split at h
 ·simp at h
 ·split at h
  ·rename_i c r h34;exact⟨r,by rw [show c=34 from UInt8.toNat_inj.1 h34],h⟩
  ·simp at h
theorem uV {l x:List UInt8} {n:Nat} (h:takeOut l=(x,n,0)) :
  1≤n∧n≤l.length∧takeOut (l.take n)=(x,n,0)∧takeOut (l.take (n - 1))=([],n - 1,11):=by
 obtain⟨r,rfl,hg⟩:=yX h;obtain⟨body,rest,y,rfl,rfl,rfl,hon⟩:=rK _ _ _ _ _ _ hg;have t1:(34::(body++34::rest)).take (1+body.length+1)=34::(body++[34]):=by
  rw [show 1+body.length+1=(body.length+1)+1 from by omega,List.take_succ_cons,List.take_append,List.take_of_length_le (by omega)];simp
 have t2:(34::(body++34::rest)).take (1+body.length+1 - 1)=34::body:=by
  rw [show 1+body.length+1 - 1=body.length+1 from by omega,List.take_succ_cons,List.take_left]
 refine⟨by omega,by simp;omega,?_,?_⟩
 ·rw [t1];simp only [takeOut];rw [if_pos (by decide)];obtain⟨g',hg',he,_⟩:=hon ((body++[34]).length+1) [34] 1 [] (by simp;omega);obtain⟨g0,rfl⟩:∃ g0,g'=g0+1:=⟨g' - 1,by omega⟩
  rw [he,fE,if_pos (by decide)];simp
 ·rw [t2];simp only [takeOut];rw [if_pos (by decide)];obtain⟨g',hg',he,_⟩:=hon (body.length+1) [] 1 [] (by omega);obtain⟨g0,rfl⟩:∃ g0,g'=g0+1:=⟨g' - 1,by omega⟩
  rw [List.append_nil] at he;rw [he,fE];simp
theorem yY:∀ (f:Nat) (l:List UInt8) (k:Nat) (acc:List UInt8),(fE f l k acc).2.2=0∨((fE f l k acc).2.2=11∧(fE f l k acc).1=[]∧(fE f l k acc).2.1≤k+l.length)
 | 0,l,k,acc=>by simp [fE]
 | f+1,[],k,acc=>by simp [fE]
 | f+1,c::r,k,acc=>by
  rw [fE];split
  ·simp
  ·split
   ·rename_i n ho;have:=uU (c::r);rw [ho] at this;right;simp at this ⊢;omega
   ·rename_i b n ho;have hn:=uU (c::r);rw [ho] at hn;rcases yY f ((c::r).drop n) (k+n) (acc++[b]) with h | ⟨h1,h2,h3⟩
    ·exact Or.inl h
    ·refine Or.inr ⟨h1,h2,?_⟩;simp at hn h3 ⊢;omega
theorem xD (l:List UInt8):(takeOut l).2.2=0∨((takeOut l).2.2=11∧(takeOut l).1=[]∧(takeOut l).2.1≤l.length):=by
 unfold takeOut;split
 ·simp
 ·split
  ·rename_i c r _;rcases yY (r.length+1) r 1 [] with h | ⟨h1,h2,h3⟩
   ·exact Or.inl h
   ·exact Or.inr ⟨h1,h2,by simp;omega⟩
  ·simp
def bW (n:Nat):Bool:=decide ((97≤n∧n≤122)∨(65≤n∧n≤90)∨n=95)
def bX (n:Nat):Bool:=decide (48≤n∧n≤57)
def nameB:List UInt8→Bool
 | []=>false
 | c::r=>bW c.toNat&&r.all (fun x=>bW x.toNat||bX x.toNat)&&decide (r.length≤11)
end Go.Proofs.YtdnnmjhfidimcaaGreatDoor
