/- There is an end among a text's tokens, and each has a place. Bytes of the call's own that grow. A right tree comes back from its tokens: expressions. What the document's Quote answers, for any string. -/
import Derived.Test.YtdnnmjhfidimcaaGreatDoorJoint4
import Derived.Test.YtdnnmjhfidimcaaGreatDoorJoint1
import Derived.Test.YtdnnmjhfidimcaaGreatDoorBld
import Derived.Laws.BytesArg
import Derived.Deep.RegionLaw
import Derived.Test.YtdnnmjhfidimcaaGreatDoorJoint15
import Derived.Test.YtdnnmjhfidimcaaGreatDoorJoint6
import Derived.Test.YtdnnmjhfidimcaaGreatDoorJoint9
namespace Go.Proofs.YtdnnmjhfidimcaaGreatDoor
open Go.RowKit
theorem Rw {l:List UInt8} {k:Nat} (h:(cA l k).2.2=0):k<(cA l k).2.1∧(cA l k).2.1≤k+l.length∧(cA l k).1.pl=k:=by
 match l with
 | []=>simp [cA] at h
 | b::r=>
  unfold cA at h ⊢;simp only at h ⊢;by_cases hl:aW b.toNat=true
  ·rw [if_pos hl] at h ⊢;have h1:=uG dS (b::r);have h2:0<jH dS (b::r):=by rw [jH,if_pos (zP hl)];omega
   unfold hD at h ⊢;split
   ·exact⟨by simp only;omega,by simp only;omega,rfl⟩
   ·rename_i hk;rw [if_neg hk] at h;split
    ·exact⟨by simp only;omega,by simp only;omega,rfl⟩
    ·rename_i hm;rw [if_neg hm] at h;cases h
  ·rw [if_neg hl] at h ⊢;by_cases hd:bA b.toNat=true
   ·rw [if_pos hd] at h ⊢;have h1:=uG bA (b::r);have h2:0<jH bA (b::r):=by rw [jH,if_pos hd];omega
    unfold iB at h ⊢;split
    ·exact⟨by simp only;omega,by simp only;omega,rfl⟩
    ·rename_i hk;rw [if_neg hk] at h;exact absurd h hk
   ·rw [if_neg hd] at h ⊢;by_cases h34:b.toNat=34
    ·rw [if_pos h34] at h ⊢;have h3:(takeOut (b::r)).2.2=0:=by
      unfold jX at h;by_cases h3:(takeOut (b::r)).2.2=0
      ·exact h3
      ·rw [if_neg h3] at h;exact h
     have hg:takeOut (b::r)=((takeOut (b::r)).1,(takeOut (b::r)).2.1,0):=by rw [← h3]
     obtain⟨r',e',hgo⟩:=AE hg;obtain⟨body,rest,y,er,en,_,_⟩:=sS _ _ _ _ _ _ hgo;have hlen:(b::r).length=body.length+rest.length+2:=by rw [e',er];simp;omega
     unfold jX at h ⊢;rw [if_pos h3] at h ⊢;split
     ·rename_i hk;rw [if_pos hk] at h;cases h
     ·exact⟨by simp only;omega,by simp only;omega,rfl⟩
    ·rw [if_neg h34] at h ⊢;unfold kK at h ⊢;by_cases hk:signL (b::r)=[]
     ·rw [if_pos hk] at h;cases h
     ·rw [if_neg hk];have hp:∀ L:List (List UInt8),fB L (b::r)≠[]→(fB L (b::r)).length≤(b::r).length:=by
       intro L;induction L with
       | nil=>intro h;exact absurd rfl h
       | cons x L ih=>
        intro h;rw [fB] at h ⊢;split
        ·rename_i hx;exact (List.isPrefixOf_iff_prefix.1 hx).length_le
        ·rename_i hx;rw [if_neg hx] at h;exact ih h
      have h1:=hp sgnL hk;have h2:=List.length_pos_iff.2 hk;refine⟨?_,?_,rfl⟩
      ·simp only;omega
      ·simp only;unfold signL;omega
theorem Fp (s:ByteArray):∀ (f k:Nat) (acc out:List Tok) (p:Nat),jD s f k acc=(out,p,0)→0<f→s.size<k+f→k≤s.size→
  ∃ new,out=acc++new∧(∃ t∈new,t.kind=6)∧∀ t∈new,∃ a:Nat,t.pl=a∧k≤a∧a≤s.size
 | 0,_,_,_,_,_,h0,_,_=>by omega
 | f+1,k,acc,out,p,h,_,hf,hk=>by
  rw [jD] at h;split at h
  ·rename_i hks;injection h with h1 h2;exact⟨_,h1.symm,⟨_,List.mem_singleton.2 rfl,rfl⟩,fun t ht=>by rw [List.mem_singleton.1 ht];exact⟨s.size,rfl,hk,Nat.le_refl _⟩⟩
  ·rename_i hks;split at h
   ·rename_i he;injection h with h1 h2;injection h2 with h2 h3;exact absurd h3 he
   ·rename_i he;have he0:(cA (s.data.toList.drop k) k).2.2=0:=by simpa using he
    split at h
    ·injection h with h1 h2;injection h2 with h2 h3;cases h3
    ·obtain⟨g1,g2,g3⟩:=Rw he0;rw [List.length_drop,cB] at g2;have g4:=yA false s (cA (s.data.toList.drop k) k).2.1;have g5:=pA (f:=false) (s:=s) (k:=(cA (s.data.toList.drop k) k).2.1) (by omega);obtain⟨new,e1,e2,e3⟩:=Fp s f _ _ out p h (by omega) (by omega) g5;refine⟨(cA (s.data.toList.drop k) k).1::new,by rw [e1];simp,by obtain⟨u,u1,u2⟩:=e2;exact⟨u,List.mem_cons_of_mem _ u1,u2⟩,fun t ht=>?_⟩;rcases List.mem_cons.1 ht with rfl | ht
     ·exact⟨k,g3,Nat.le_refl _,by omega⟩
     ·obtain⟨a,a1,a2,a3⟩:=e3 t ht;exact⟨a,a1,by omega,a3⟩
theorem Qb {s:ByteArray} {out:List Tok} {p:Nat} (h:tokOut s=(out,p,0)):(∃ t∈out,t.kind=6)∧∀ t∈out,∃ a:Nat,t.pl=a∧a≤s.size:=by
 unfold tokOut at h;split at h
 ·injection h with h1 h2;injection h2 with h2 h3;cases h3
 ·have hk:=pA (f:=false) (s:=s) (k:=0) (Nat.zero_le _);obtain⟨new,en,nn,nt⟩:=Fp s _ _ _ _ _ h (by omega) (by omega) hk;rw [List.nil_append] at en;subst en;exact⟨nn,fun t ht=>by obtain⟨a,a1,_,a3⟩:=nt t ht;exact⟨a,a1,a3⟩⟩
def Cq (B:Nat) (v:Value) (l:List UInt8) (w:World):Prop:=w.ownsRow B 5 1 v l.length (Lib.byteCells l)
theorem ID {ops:Array Oper} {rest:List Oper} {o:Oper} {a:Act} {Q:Exit→Act→World→Prop} {w:World} (hgd:o.guard=none) (s x:Operand)
  (ho:o.op=.call { callee:=.builtin .append,args:=#[s,x],argTypes:=#[49,49] })
  (B:Nat) (l news:List UInt8) (cs:Array Value) (n:Nat) (hn:news.length=n) (hcs:cs=(Lib.byteCells news).toArray) (v:Value) (hs:a.eval s=v) (hown:Cq B v l w)
  (hx:a.eval x=.slice (some ⟨w.heap.size,0,none⟩) n n) (hlen:l.length+n≤140737488355328) (hB:B≤w.heap.size) (h0:0<n)
  (h:∀ g cap w',Cq B (.slice (some ⟨g,0,none⟩) (l.length+n) cap) (l++news) w'→Below B w w'→wpList Tryz.prog ops Q rest (a.put o.dst (.slice (some ⟨g,0,none⟩) (l.length+n) cap)) w') :
  wpList Tryz.prog ops Q (o::rest) a (w.alloc (.cells cs 5)):=by
 obtain⟨i0,hi,hz0,hz1,hz2⟩:=JS;refine wpList_append_own _ hgd s x 49 ho B 5 i0 (.int .u8 0) 1 1 qI hi hz0 hz1 hz2 rfl (by decide) v _ _ hs (World.ownsRow.alloc hown _) ⟨w.heap.size,0,none⟩ n n (Lib.byteCells news) hx (by rw [Lib.byteCells_length];omega) ?_ ?_ (by unfold maxLen;omega) (by omega) (by simp;omega) ?_
 ·intro j u hj;have e:(⟨w.heap.size,0,none⟩:Addr).add j=⟨w.heap.size,j,none⟩:=by unfold Addr.add;split<;>simp_all
  rw [e,World.cell?_alloc_new,hcs];simpa using hj
 ·intro u hu;simp [Lib.byteCells] at hu;obtain⟨b,_,rfl⟩:=hu;rfl
 ·intro v' w2 hown' hgrow _;obtain⟨g,cap,rfl⟩:∃ g cap,v'=.slice (some ⟨g,0,none⟩) (l.length+n) cap:=by
   rcases hown'.2 with ⟨_,h0⟩ | ⟨g,cap,cur,hv,_⟩
   ·omega
   ·exact⟨g,cap,hv⟩
  refine h g cap w2 ?_ ?_
  ·unfold Cq;rw [Lib.byteCells_append,List.length_append,hn];exact hown'
  ·exact ((Below.refl B w).alloc hB _).grown hgrow (by simp;omega) (fun k hk=>(hown.lt k hk).1)
theorem Ol {ops:Array Oper} {o:Oper} {a:Act} {w:World} {K:Act→World→Prop} {Q:Exit→Act→World→Prop} {E:Prop} (hgd:o.guard=none) (s x:Operand)
  (ho:o.op=.call { callee:=.builtin .append,args:=#[s,x],argTypes:=#[49,49] })
  (B:Nat) (l news:List UInt8) (cs:Array Value) (n:Nat) (hn:news.length=n) (hcs:cs=(Lib.byteCells news).toArray) (v:Value) (hs:a.eval s=v) (hown:Cq B v l w)
  (hx:a.eval x=.slice (some ⟨w.heap.size,0,none⟩) n n) (hlen:l.length+n≤140737488355328) (hB:B≤w.heap.size) (h0:0<n)
  (h:∀ g cap w',Cq B (.slice (some ⟨g,0,none⟩) (l.length+n) cap) (l++news) w'→Below B w w'→K (a.put o.dst (.slice (some ⟨g,0,none⟩) (l.length+n) cap)) w') :
  if Region.wanted o (yielded ops a.tmps)=true then Oper.wp Tryz.prog o a (w.alloc (.cells cs 5)).drew K Q else E:=by
 have hw:Region.wanted o (yielded ops a.tmps)=true:=by simp [Region.wanted,hgd]
 rw [if_pos hw];obtain⟨i0,hi,hz0,hz1,hz2⟩:=JS;have hown1:(w.alloc (.cells cs 5)).drew.ownsRow B 5 1 v l.length (Lib.byteCells l):=World.ownsRow.alloc hown _;refine wp_append_own _ s x 49 ho B 5 i0 (.int .u8 0) 1 1 qI hi hz0 hz1 hz2 rfl (by decide) v _ _ hs hown1 ⟨w.heap.size,0,none⟩ n n (Lib.byteCells news) hx (by rw [Lib.byteCells_length];omega) ?_ ?_ (by unfold maxLen;omega) (by omega) (by show B≤(w.alloc (.cells cs 5)).heap.size;simp;omega) ?_
 ·intro j u hj;have e:(⟨w.heap.size,0,none⟩:Addr).add j=⟨w.heap.size,j,none⟩:=by unfold Addr.add;split<;>simp_all
  show (w.alloc (.cells cs 5)).cell? _=_;rw [e,World.cell?_alloc_new,hcs];simpa using hj
 ·intro u hu;simp [Lib.byteCells] at hu;obtain⟨b,_,rfl⟩:=hu;rfl
 ·intro v' w2 hown' hgrow _;obtain⟨g,cap,rfl⟩:∃ g cap,v'=.slice (some ⟨g,0,none⟩) (l.length+n) cap:=by
   rcases hown'.2 with ⟨_,h0⟩ | ⟨g,cap,cur,hv,_⟩
   ·omega
   ·exact⟨g,cap,hv⟩
  refine h g cap w2 ?_ ?_
  ·unfold Cq;rw [Lib.byteCells_append,List.length_append,hn];exact hown'
  ·exact (((Below.refl B w).alloc hB _).drew).grown hgrow (by show B≤(w.alloc (.cells cs 5)).heap.size;simp;omega) (fun k hk=>(hown.lt k hk).1)
theorem FF {B g cap n:Nat} {l:List UInt8} {w:World} (h:Cq B (.slice (some ⟨g,0,none⟩) n cap) l w) (hn:n=l.length) :
  (convert 49 9 (.slice (some ⟨g,0,none⟩) n cap)).run Tryz.prog w=.ok (.string ⟨l.toArray⟩) w:=by
 subst hn;refine run_convert_bytes_back w 49 9 5 ⟨g,0,none⟩ cap l (by kernel_rfl) (by kernel_rfl) (by kernel_rfl) (fun j hj=>?_);exact World.ownsRow.cells h (g:=g) rfl j (.int .u8 l[j].toNat) (by simp [Lib.byteCells,hj])
def Ev {α:Type} (g:Nat→α) (res:α):Prop:=∃ f0,∀ f,f0≤f→g f=res
theorem Ev.const {α:Type} (a:α):Ev (fun _=>a) a:=⟨0,fun _ _=>rfl⟩
theorem Ev.up {α:Type} {g h:Nat→α} {res:α} (e:∀ f,g (f+1)=h f) (H:Ev h res):Ev g res:=by
 obtain⟨f0,h0⟩:=H;refine⟨f0+1,fun f hf=>?_⟩;obtain⟨f',rfl⟩:∃ f',f=f'+1:=⟨f - 1,by omega⟩
 rw [e];exact h0 f' (by omega)
theorem Ev.of {α:Type} {g h:Nat→α} {res:α} (e:∀ f,g f=h f) (H:Ev h res):Ev g res:=by
 obtain⟨f0,h0⟩:=H;exact⟨f0,fun f hf=>(e f).trans (h0 f hf)⟩
theorem Ev.bind {x:Nat→PR} {k:Nat→Nd→Bool→List Tok→PR} {t:Nd} {b:Bool} {l:List Tok} {res:PR} (hx:Ev x (.ok t b l)) (hk:Ev (fun f=>k f t b l) res):Ev (fun f=>(x f).bind (k f)) res:=by
 obtain⟨f1,h1⟩:=hx;obtain⟨f2,h2⟩:=hk;refine⟨max f1 f2,fun f hf=>?_⟩;show (x f).bind (k f)=res;rw [h1 f (by omega),PR.bind_ok];exact h2 f (by omega)
theorem Ev.bindL {x:Nat→PR} {k:Nat→Nd→Bool→List Tok→PL} {t:Nd} {b:Bool} {l:List Tok} {res:PL} (hx:Ev x (.ok t b l)) (hk:Ev (fun f=>k f t b l) res):Ev (fun f=>(x f).bindL (k f)) res:=by
 obtain⟨f1,h1⟩:=hx;obtain⟨f2,h2⟩:=hk;refine⟨max f1 f2,fun f hf=>?_⟩;show (x f).bindL (k f)=res;rw [h1 f (by omega),PR.bindL_ok];exact h2 f (by omega)
theorem Ev.lbind {x:Nat→PL} {k:Nat→List ByteArray→List Nd→List Tok→PR} {t:List ByteArray} {b:List Nd} {l:List Tok} {res:PR} (hx:Ev x (.ok t b l)) (hk:Ev (fun f=>k f t b l) res):Ev (fun f=>(x f).bind (k f)) res:=by
 obtain⟨f1,h1⟩:=hx;obtain⟨f2,h2⟩:=hk;refine⟨max f1 f2,fun f hf=>?_⟩;show (x f).bind (k f)=res;rw [h1 f (by omega),PL.bind_ok];exact h2 f (by omega)
/-! tokens that come -/
theorem RF (x y:List UInt8):gP (dB x) y=(x==y):=by simp [gP,dB]
theorem RG (x y:List UInt8):gP (sN x) y=(x==y):=by simp [gP,sN]
theorem RH (s:ByteArray) (y:List UInt8):gP (Ea s) y=false:=by simp [gP,Ea]
theorem OG (t:Tok) (l:List Tok) (x:List UInt8):cD (t::l) x=gP t x:=rfl
theorem fY (x y:List UInt8) (l:List Tok):cD (dB x::l) y=(x==y):=RF x y
theorem lN (x y:List UInt8) (l:List Tok):cD (sN x::l) y=(x==y):=RG x y
theorem RI (s:ByteArray) (y:List UInt8) (l:List Tok):cD (Ea s::l) y=false:=RH s y
theorem Ej {t:Tok} {x y:List UInt8} (h:gP t x=true) (hn:(x==y)=false):gP t y=false:=by
 unfold gP at h ⊢;rw [Bool.and_eq_true,beq_iff_eq] at h;rw [h.2,hn,Bool.and_false]
theorem RJ (s:ByteArray) (y:List UInt8) (hy:iW y=false):gP (Cs s) y=false:=by
 unfold gP Cs;cases hk:iW s.data.toList with
 | false=>simp
 | true=>
  have:(s.data.toList==y)=false:=by
   rw [beq_eq_false_iff_ne];intro e;rw [e,hy] at hk;cases hk
  rw [this,Bool.and_false]
theorem lE (x:List UInt8) (l:List Tok) (k:List Tok→PR):must x (dB x::l) k=k l:=by unfold must;rw [fY,if_pos (by simp)];rfl
theorem tU (x:List UInt8) (l:List Tok) (k:List Tok→PL):mustL x (dB x::l) k=k l:=by unfold mustL;rw [fY,if_pos (by simp)];rfl
theorem FN (s:ByteArray) (l:List Tok) (k:ByteArray→List Tok→PR):kR true (Cs s::l) k=k s l:=by
 unfold kR;rw [if_pos (by unfold rF cur Cs;cases iW s.data.toList<;>rfl)];rfl
theorem FO (s:ByteArray) (l:List Tok) (k:ByteArray→List Tok→PL):wordL true (Cs s::l) k=k s l:=by
 unfold wordL;rw [if_pos (by unfold rF cur Cs;cases iW s.data.toList<;>rfl)];rfl
theorem OH (b:Bool) (s:ByteArray) (l:List Tok) (k:ByteArray→List Tok→PR):kR b (Ea s::l) k=k s l:=by
 unfold kR;rw [if_pos (by unfold rF;rfl)];rfl
theorem FP (b:Bool) (s:ByteArray) (l:List Tok) (k:ByteArray→List Tok→PL):wordL b (Ea s::l) k=k s l:=by
 unfold wordL;rw [if_pos (by unfold rF;rfl)];rfl
theorem iA (x:List UInt8) (r:List Pc):aK (sg x::r)=dB x::aK r:=rfl
theorem vD (x:List UInt8) (r:List Pc):aK (kw x::r)=sN x::aK r:=rfl
theorem OI (s:ByteArray) (r:List Pc):aK (nm s::r)=Ea s::aK r:=rfl
theorem Kg (s:ByteArray) (r:List Pc):aK (pp s::r)=Cs s::aK r:=rfl
theorem kE (r:List Pc):aK (.bl::r)=aK r:=rfl
theorem oN:aK []=[]:=rfl
/-! with which tokens an expression begins -/
def firstL:List (List UInt8):=[[40],[123],[45],[33],[110,117,108,108],[116,114,117,101],[102,97,108,115,101],[116,104,105,115],[102,110],
 [99,111,117,110,116],[107,101,121],[104,97,115],[112,114,111,116,111],[115,101,116,112,114,111,116,111],[108,101,110],[115,116,114]]
def tV (t:Tok):Bool:=t.kind==1||t.kind==3||t.kind==4||firstL.any (gP t)
theorem yW {t:Tok} (h:tV t=true) {x:List UInt8} (hx:firstL.contains x=false):gP t x=false:=by
 cases hq:gP t x with
 | false=>rfl
 | true=>
  exfalso;unfold tV at h;have hk:t.kind=2∨t.kind=5:=by
   unfold gP at hq;rw [Bool.and_eq_true,Bool.or_eq_true,beq_iff_eq,beq_iff_eq] at hq;exact hq.1
  have h1:(t.kind==1||t.kind==3||t.kind==4)=false:=by
   rcases hk with h | h<;>rw [h]<;>rfl
  rw [h1,Bool.false_or,List.any_eq_true] at h;obtain⟨y,hy,hty⟩:=h;have hne:(x==y)=false:=by
   rw [beq_eq_false_iff_ne];intro e;subst e;rw [List.contains_iff_mem.2 hy] at hx;cases hx
  rw [Ej hq hne] at hty;cases hty
theorem BH {t:Tok} (h:tV t=true):t.kind≠6:=by
 intro e;unfold tV at h;have h0:∀ x,gP t x=false:=by intro x;unfold gP;rw [e];rfl
 have h2:firstL.any (gP t)=false:=by rw [List.any_eq_false];intro x _;rw [h0];decide
 rw [h2,e] at h;cases h
def Firsts (ts:List Tok):Prop:=∃ t r,ts=t::r∧tV t=true
theorem Firsts.app {a b:List Tok} (h:Firsts a):Firsts (a++b):=by
 obtain⟨t,r,e,h1⟩:=h;exact⟨t,r++b,by rw [e];rfl,h1⟩
theorem Firsts.not {l:List Tok} (h:Firsts l) {x:List UInt8} (hx:firstL.contains x=false):cD l x=false:=by
 obtain⟨t,r,rfl,h1⟩:=h;exact yW h1 hx
theorem Firsts.kind {l:List Tok} (h:Firsts l):(cur l).kind≠6:=by
 obtain⟨t,r,rfl,h1⟩:=h;exact BH h1
/-! units: tokens of which a node comes, whatever stands behind them -/
def IT (l:List Tok):Prop:=cD l [46]=false∧cD l [91]=false∧cD l [40]=false
def Stop (r:Nat) (l:List Tok):Prop:=IT l∧∀ r',r≤r'→mF r' l=none
theorem Stop.up {r r':Nat} {l:List Tok} (h:Stop r l) (hr:r≤r'):Stop r' l:=⟨h.1,fun q hq=>h.2 q (by omega)⟩
def Unit8 (ts:List Tok) (e:Nd) (b nc:Bool):Prop:=
 Firsts ts∧cD ts [45]=false∧cD ts [33]=false∧∀ rest res,(nc=true→cD rest [40]=false)→Ev (fun f=>fN f e b rest) res→Ev (fun f=>kS f (ts++rest)) res
def UnitAt (r:Nat) (ts:List Tok) (e:Nd) (b:Bool):Prop:=
 Firsts ts∧if r≤6 then ∀ rest res,Stop (r+1) rest→Ev (fun f=>gQ f r e b rest) res→Ev (fun f=>aS f r (ts++rest)) res
  else ∀ rest,IT rest→Ev (fun f=>aS f 7 (ts++rest)) (.ok e b rest)
theorem Mz {r:Nat} {e:Nd} {b:Bool} {l:List Tok} (h:mF r l=none):Ev (fun f=>gQ f r e b l) (.ok e b l):=
 .up (h:=fun _=>.ok e b l) (fun f=>by rw [gQ,h]) (.const _)
theorem Df {e:Nd} {b:Bool} {l:List Tok} (h:IT l):Ev (fun f=>fN f e b l) (.ok e b l):=
 .up (h:=fun _=>.ok e b l) (fun f=>by rw [fN,h.1,h.2.1,h.2.2];rfl) (.const _)
theorem nC {ts rest:List Tok} (h:Firsts ts) (x:List UInt8):cD (ts++rest) x=cD ts x:=by
 obtain⟨t,r,rfl,_⟩:=h;rfl
theorem Unit8.at7 {ts:List Tok} {e:Nd} {b nc:Bool} (h:Unit8 ts e b nc):UnitAt 7 ts e b:=by
 obtain⟨h1,h2,h3,h4⟩:=h;refine⟨h1,?_⟩;rw [if_neg (by omega)];intro rest hr;refine .up (h:=fun f=>kS f (ts++rest)) (fun f=>?_) (h4 rest _ (fun _=>hr.2.2) (Df hr));rw [aS,if_pos (by omega),nC h1,nC h1,h2,h3];rfl
theorem UnitAt.whole {r:Nat} {ts:List Tok} {e:Nd} {b:Bool} (h:UnitAt r ts e b) (hr7:r≤7) {rest:List Tok} (hr:Stop r rest):Ev (fun f=>aS f r (ts++rest)) (.ok e b rest):=by
 obtain⟨h1,h2⟩:=h;by_cases h6:r≤6
 ·rw [if_pos h6] at h2;exact h2 rest _ (hr.up (by omega)) (Mz (hr.2 r (Nat.le_refl _)))
 ·rw [if_neg h6] at h2;have:r=7:=by omega
  subst this;exact h2 rest hr.1
theorem UnitAt.down1 {r:Nat} {ts:List Tok} {e:Nd} {b:Bool} (h:UnitAt (r+1) ts e b) (hr:r≤6):UnitAt r ts e b:=by
 refine⟨h.1,?_⟩;rw [if_pos hr];intro rest res hs hm;have hw:=h.whole (by omega) hs;refine .up (h:=fun f=>(aS f (r+1) (ts++rest)).bind fun e b l=>gQ f r e b l) (fun f=>by rw [aS,if_neg (by omega)]) ?_;exact .bind hw hm
theorem UnitAt.down {ts:List Tok} {e:Nd} {b:Bool} : ∀ (n r:Nat),r+n≤7→UnitAt (r+n) ts e b→UnitAt r ts e b
 | 0,_,_,h=>h
 | n+1,r,hr,h=>(UnitAt.down n (r+1) (by omega) (by rw [show r+1+n=r+(n+1) by omega];exact h)).down1 (by omega)
theorem UnitAt.to {q r:Nat} {ts:List Tok} {e:Nd} {b:Bool} (h:UnitAt q ts e b) (hq:q≤7) (hr:r≤q):UnitAt r ts e b:=
 .down (q - r) r (by omega) (by rw [show r+(q - r)=q by omega];exact h)
theorem eM {c:UInt8} {l:List Tok} (h:c=41∨c=93∨c=44∨c=59∨c=125):Stop 1 (dB [c]::l):=by
 have h0:∀ x:List UInt8,x≠[c]→cD (dB [c]::l) x=false:=by
  intro x hx;rw [fY,beq_eq_false_iff_ne];exact fun e=>hx e.symm
 refine⟨?_,fun r' _=>?_⟩
 ·refine⟨h0 _ ?_,h0 _ ?_,h0 _ ?_⟩<;>(rcases h with rfl | rfl | rfl | rfl | rfl<;>decide)
 ·unfold mF AK;split<;>simp only [qD]<;>rcases h with rfl | rfl | rfl | rfl | rfl<;>simp [fY]
theorem xL {ts:List Tok} {e:Nd} {b:Bool} (h:UnitAt 1 ts e b):Unit8 (dB [40]::(ts++[dB [41]])) e false false:=by
 refine⟨⟨_,_,rfl,by decide⟩,by rw [fY];rfl,by rw [fY];rfl,fun rest res _ ht=>?_⟩;have hw:=h.whole (by omega) (rest:=dB [41]::rest) (eM (.inl rfl));have ha:Ev (fun f=>iG f (dB [40]::(ts++[dB [41]])++rest)) (.ok e false rest):=by
  refine .up (h:=fun f=>(aS f 1 (ts++(dB [41]::rest))).bind fun e _ l=>must [41] l fun l=>.ok e false l) (fun f=>?_) (.bind hw ?_)
  ·rw [iG];simp [cur,dB,cD,gP]
  ·exact .of (fun f=>lE _ _ _) (.const _)
 exact .up (h:=fun f=>(iG f (dB [40]::(ts++[dB [41]])++rest)).bind fun e b l=>fN f e b l) (fun f=>by rw [kS]) (.bind ha ht)
theorem mJ {t:Tok} {e:Nd} {b nc:Bool} (hf:tV t=true) (h45:gP t [45]=false) (h33:gP t [33]=false) (h:∀ f rest,iG (f+1) (t::rest)=.ok e b rest):Unit8 [t] e b nc:=by
 refine⟨⟨_,_,rfl,hf⟩,h45,h33,fun rest res _ ht=>?_⟩;refine .up (h:=fun f=>(iG f (t::rest)).bind fun e b l=>fN f e b l) (fun f=>by rw [List.cons_append,List.nil_append,kS]) ?_;exact .bind (.up (h:=fun _=>.ok e b rest) (fun f=>h f rest) (.const _)) ht
def pU (x:Nd):Bool:=decide (x.kind=5∨x.kind=13∨x.kind=14)
def gM (x:Nd):Nat:=(rankT x.kind x.op).toNat
def BackE (x:Nd):Prop:=
 UnitAt (min 7 (gM x)) (aK (pcN x).e) (zN x) (pU x)∧(8≤gM x→Unit8 (aK (pcN x).e) (zN x) (pU x) (decide (x.kind=13)))
theorem iR {x:Nd} (h:Unit8 (aK (pcN x).e) (zN x) (pU x) (decide (x.kind=13))) (hr:7≤gM x):BackE x:=
 ⟨by rw [Nat.min_eq_left hr];exact h.at7,fun _=>h⟩
theorem Av {x:Nd} (hr:gM x≤7) (h:UnitAt (gM x) (aK (pcN x).e) (zN x) (pU x)):BackE x:=
 ⟨by rw [Nat.min_eq_right hr];exact h,fun h8=>by omega⟩
theorem fK {x:Nd} (h:Rt 1 x):1≤gM x:=by
 cases h<;>first | (simp only [gM,Nd.kind,Nd.op];decide) | (rename_i ho _ _;simp only [gM,Nd.kind,Nd.op,rankT];grind) | skip
theorem FQ (x:Nd):(pcN x).rank=rankT x.kind x.op:=by obtain⟨k,o,n,s,ns,ks,p⟩:=x;rw [cM];rfl
theorem OJ (x:Nd):(pcN x).kind=x.kind:=by obtain⟨k,o,n,s,ns,ks,p⟩:=x;rw [cM];rfl
theorem BackE.one {x:Nd} (h:BackE x) (hp:1≤gM x):UnitAt 1 (aK (pcN x).e) (zN x) (pU x):=h.1.to (by omega) (by omega)
theorem vY {x:Nd} (h:BackE x) (hp:1≤gM x) {r:Nat} (hr:r≤7):∃ b,UnitAt r (aK (iQ (pcN x) r)) (zN x) b:=by
 unfold iQ;rw [FQ];by_cases hq:(r:Int)≤rankT x.kind x.op
 ·rw [if_pos hq];exact⟨_,h.1.to (by omega) (by unfold gM;omega)⟩
 ·rw [if_neg hq,iA,bB];exact⟨_,(xL (h.one hp)).at7.to (by omega) hr⟩
theorem qL {x:Nd} (h:BackE x) (hp:1≤gM x) (r:Int) (hr:8≤r):∃ b,Unit8 (aK (iQ (pcN x) r)) (zN x) b (decide (x.kind=13∧r≤rankT x.kind x.op)):=by
 unfold iQ;rw [FQ];by_cases hq:r≤rankT x.kind x.op
 ·rw [if_pos hq];have h8:=h.2 (by unfold gM;omega);refine⟨pU x,?_⟩;rw [show decide (x.kind=13∧r≤rankT x.kind x.op)=decide (x.kind=13) by simp [hq]];exact h8
 ·rw [if_neg hq,iA,bB];refine⟨false,?_⟩;rw [show decide (x.kind=13∧r≤rankT x.kind x.op)=false by simp [hq]];exact xL (h.one hp)
/-! expressions, kind by kind -/
theorem Dg {o:Int} (h:1≤o∧o≤11) (l:List Tok):∃ r:Nat,rankT 10 o=r∧3≤r∧r≤6∧mF r (dB (signT o)::l)=some (10,o)∧Stop (r+1) (dB (signT o)::l):=by
 obtain rfl | rfl | rfl | rfl | rfl | rfl | rfl | rfl | rfl | rfl | rfl:o=1∨o=2∨o=3∨o=4∨o=5∨o=6∨o=7∨o=8∨o=9∨o=10∨o=11:=by omega
 case' inl=>refine⟨5,?_⟩
 case' inr.inl=>refine⟨5,?_⟩
 case' inr.inr.inl=>refine⟨6,?_⟩
 case' inr.inr.inr.inl=>refine⟨6,?_⟩
 case' inr.inr.inr.inr.inl=>refine⟨6,?_⟩
 case' inr.inr.inr.inr.inr.inl=>refine⟨4,?_⟩
 case' inr.inr.inr.inr.inr.inr.inl=>refine⟨4,?_⟩
 case' inr.inr.inr.inr.inr.inr.inr.inl=>refine⟨4,?_⟩
 case' inr.inr.inr.inr.inr.inr.inr.inr.inl=>refine⟨4,?_⟩
 case' inr.inr.inr.inr.inr.inr.inr.inr.inr.inl=>refine⟨3,?_⟩
 case' inr.inr.inr.inr.inr.inr.inr.inr.inr.inr=>refine⟨3,?_⟩
 all_goals
  refine⟨rfl,by omega,by omega,rfl,⟨rfl,rfl,rfl⟩,fun r' hr'=>?_⟩;unfold mF AK;split<;>first | omega | rfl
theorem OK (l:List Tok):mF 2 (dB [38,38]::l)=some (11,0)∧Stop 3 (dB [38,38]::l):=by
 refine⟨rfl,⟨rfl,rfl,rfl⟩,fun r' hr'=>?_⟩;unfold mF AK;split<;>first | omega | rfl
theorem Qj (l:List Tok):mF 1 (dB [124,124]::l)=some (12,0)∧Stop 2 (dB [124,124]::l):=by
 refine⟨rfl,⟨rfl,rfl,rfl⟩,fun r' hr'=>?_⟩;unfold mF AK;split<;>first | omega | rfl
theorem Ek {r:Nat} (hr:r≤6) {k o:Int} {g:List UInt8} (hg:∀ l,mF r (dB g::l)=some (k,o)∧Stop (r+1) (dB g::l)) {tx ty:List Tok} {ex ey:Nd} {bx b2:Bool} (hx:UnitAt r tx ex bx) (hy:UnitAt (r+1) ty ey b2) :
  UnitAt r (tx++(dB g::ty)) (gS k o [ex,ey]) false:=by
 refine⟨hx.1.app,?_⟩;rw [if_pos hr];intro rest res hs hm;have h1:=hx.2;rw [if_pos hr] at h1;have hw:=hy.whole (by omega) hs;have h2:=h1 (dB g::(ty++rest)) res (hg _).2 (.up (h:=fun f=>(aS f (r+1) (ty++rest)).bind fun e' _ l=>gQ f r (gS k o [ex,e']) false l) (fun f=>by rw [gQ,(hg _).1];rfl) (.bind hw hm));rw [List.append_assoc];exact h2
theorem sA {x y:Nd} {r:Nat} (hr1:1≤r) (hr:r≤6) {k o:Int} {g:List UInt8} (hg:∀ l,mF r (dB g::l)=some (k,o)∧Stop (r+1) (dB g::l)) (hx:BackE x) (hy:BackE y) (px:1≤gM x) (py:1≤gM y) :
  UnitAt r (aK (lR r g (pcN x) (pcN y))) (gS k o [zN x,zN y]) false:=by
 obtain⟨bx,ux⟩:=vY hx px (r:=r) (by omega);obtain⟨b2,uy⟩:=vY hy py (r:=r+1) (by omega);have e:aK (lR r g (pcN x) (pcN y))=aK (iQ (pcN x) r)++(dB g::aK (iQ (pcN y) ((r+1:Nat):Int))):=by
  unfold lR;rw [bB,kE,iA,kE];rfl
 rw [e];exact Ek hr hg ux uy
theorem OL {ts:List Tok} {e:Nd} {b nc:Bool} (h:Unit8 ts e b nc) (s:ByteArray):Unit8 (ts++[dB [46],Cs s]) (uU 13 s [e]) true true:=by
 obtain⟨h1,h2,h3,h4⟩:=h;refine⟨h1.app,by rw [nC h1];exact h2,by rw [nC h1];exact h3,fun rest res hn ht=>?_⟩;rw [List.append_assoc];refine h4 _ res (fun _=>by rw [List.cons_append,fY];rfl) ?_;refine .up (h:=fun f=>fN f (uU 13 s [e]) true rest) (fun f=>?_) ht;rw [List.cons_append,fN,fY,if_pos (by decide)];show kR true (Cs s::rest) _=_;rw [FN,hn rfl];rfl
theorem IU {ts ti:List Tok} {e i:Nd} {b nc bi nd:Bool} (h:Unit8 ts e b nc) (hi:UnitAt 1 ti i bi):Unit8 (ts++(dB [91]::(ti++[dB [93]]))) (iH 14 [e,i]) true nd:=by
 obtain⟨h1,h2,h3,h4⟩:=h;refine⟨h1.app,by rw [nC h1];exact h2,by rw [nC h1];exact h3,fun rest res hn ht=>?_⟩;rw [List.append_assoc];refine h4 _ res (fun _=>by rw [List.cons_append,fY];rfl) ?_;have hw:=hi.whole (by omega) (rest:=dB [93]::rest) (eM (.inr (.inl rfl)));refine .up (h:=fun f=>(aS f 1 (ti++(dB [93]::rest))).bind fun i _ l=>must [93] l fun l=>fN f (iH 14 [e,i]) true l) (fun f=>?_) (.bind hw (.of (fun f=>lE _ _ _) ht));rw [List.cons_append,fN,fY,fY,if_neg (by decide),if_pos (by decide)];rw [List.append_assoc];rfl
theorem Dh {rest:List Tok} : ∀ (ks:List Nd) (acc:List Nd),(∀ x∈ks,UnitAt 1 (aK (pcN x).e) (zN x) (pU x))→acc.length+ks.length≤7→
  Ev (fun f=>iL f acc (aK (fV (ks.map pcN))++(dB [41]::rest))) (.ok [] (acc++ks.map zN) rest)
 | [],acc,_,_=>by
  refine .up (h:=fun _=>.ok [] acc rest) (fun f=>?_) (by simpa using Ev.const (PL.ok [] acc rest));rw [iL];have:cD (aK (fV (([]:List Nd).map pcN))++(dB [41]::rest)) [44]=false:=rfl;rw [this,if_neg (by simp)];exact tU _ _ _
 | x::ks,acc,h,hl=>by
  have hx:=h x (by simp);have ih:=Dh (rest:=rest) ks (acc++[zN x]) (fun y hy=>h y (by simp [hy])) (by simp at hl ⊢;omega);have e:aK (fV ((x::ks).map pcN))++(dB [41]::rest)=dB [44]::(aK (pcN x).e++(aK (fV (ks.map pcN))++(dB [41]::rest))):=by
   simp only [fV,List.map_cons,List.flatMap_cons,bB,List.cons_append,iA,kE,List.append_assoc]
  have hst:Stop 1 (aK (fV (ks.map pcN))++(dB [41]::rest)):=by
   cases ks with
   | nil=>exact eM (.inl rfl)
   | cons y r=>
    have e2:∃ q,aK (fV ((y::r).map pcN))++(dB [41]::rest)=dB [44]::q:=by
     simp only [fV,List.map_cons,List.flatMap_cons,List.cons_append,iA];exact⟨_,rfl⟩
    obtain⟨q,e2⟩:=e2;rw [e2];exact eM (.inr (.inr (.inl rfl)))
  rw [e];have hw:=hx.whole (by omega) hst;refine .up (h:=fun f=>(aS f 1 (aK (pcN x).e++(aK (fV (ks.map pcN))++(dB [41]::rest)))).bindL fun e _ l=>iL f (acc++[e]) l) (fun f=>?_) (.bindL hw (by simpa using ih));rw [iL,fY,if_pos ⟨by simp at hl;omega,by decide⟩];rfl
theorem FS {a:List Nd} {rest:List Tok} (ks:List Nd) (h:∀ x∈ks,UnitAt 1 (aK (pcN x).e) (zN x) (pU x)) (hl:a.length+ks.length≤7) :
  Ev (fun f=>jO f a (aK (nG (ks.map pcN))++(dB [41]::rest))) (.ok [] (a++ks.map zN) rest):=by
 cases ks with
 | nil=>
  refine .up (h:=fun _=>.ok [] a rest) (fun f=>?_) (by simpa using Ev.const (PL.ok [] a rest));rw [jO];have:cD (aK (nG (([]:List Nd).map pcN))++(dB [41]::rest)) [41]=true:=rfl;rw [this,if_pos rfl];rfl
 | cons x ks=>
  have hx:=h x (by simp);have ih:=Dh (rest:=rest) ks (a++[zN x]) (fun y hy=>h y (by simp [hy])) (by simp at hl ⊢;omega);have e:aK (nG ((x::ks).map pcN))++(dB [41]::rest)=aK (pcN x).e++(aK (fV (ks.map pcN))++(dB [41]::rest)):=by
   simp only [nG,List.map_cons,bB,List.append_assoc]
  have hst:Stop 1 (aK (fV (ks.map pcN))++(dB [41]::rest)):=by
   cases ks with
   | nil=>exact eM (.inl rfl)
   | cons y r=>
    have e2:∃ q,aK (fV ((y::r).map pcN))++(dB [41]::rest)=dB [44]::q:=by
     simp only [fV,List.map_cons,List.flatMap_cons,List.cons_append,iA];exact⟨_,rfl⟩
    obtain⟨q,e2⟩:=e2;rw [e2];exact eM (.inr (.inr (.inl rfl)))
  rw [e];have hw:=hx.whole (by omega) hst;refine .up (h:=fun f=>(aS f 1 (aK (pcN x).e++(aK (fV (ks.map pcN))++(dB [41]::rest)))).bindL fun e _ l=>iL f (a++[e]) l) (fun f=>?_) (.bindL hw (by simpa using ih));rw [jO,nC hx.1,hx.1.not (by decide)];rfl
theorem MA {ts:List Tok} {e:Nd} {b:Bool} (h:Unit8 ts e b false) {ks:List Nd} (hk:∀ x∈ks,UnitAt 1 (aK (pcN x).e) (zN x) (pU x)) (hl:ks.length≤6):Unit8 (ts++aK (lH (ks.map pcN))) (iH 15 (e::ks.map zN)) false false:=by
 obtain⟨h1,h2,h3,h4⟩:=h;refine⟨h1.app,by rw [nC h1];exact h2,by rw [nC h1];exact h3,fun rest res hn ht=>?_⟩;rw [List.append_assoc];refine h4 _ res (fun h=>by cases h) ?_;have ha:=FS (a:=[e]) (rest:=rest) ks hk (by simp;omega);refine .up (h:=fun f=>(jO f [e] (aK (nG (ks.map pcN))++(dB [41]::rest))).bind fun _ ks l=>fN f (iH 15 ks) false l) (fun f=>?_) (.lbind ha ht);unfold lH;rw [iA,bB,List.cons_append,fN,fY,fY,fY,if_neg (by decide),if_neg (by decide),if_pos (by decide),List.append_assoc];rfl
theorem MB {ts:List Tok} {e:Nd} {b nc:Bool} (h:Unit8 ts e b nc) (s:ByteArray) {ks:List Nd} (hk:∀ x∈ks,UnitAt 1 (aK (pcN x).e) (zN x) (pU x)) (hl:ks.length≤6) :
  Unit8 (ts++(dB [46]::Cs s::aK (lH (ks.map pcN)))) (uU 16 s (e::ks.map zN)) false false:=by
 obtain⟨h1,h2,h3,h4⟩:=h;refine⟨h1.app,by rw [nC h1];exact h2,by rw [nC h1];exact h3,fun rest res hn ht=>?_⟩;rw [List.append_assoc];refine h4 _ res (fun _=>by rw [List.cons_append,fY];rfl) ?_;have ha:=FS (a:=[e]) (rest:=rest) ks hk (by simp;omega);refine .up (h:=fun f=>(jO f [e] (aK (nG (ks.map pcN))++(dB [41]::rest))).bind fun _ ks l=>fN f (uU 16 s ks) false l) (fun f=>?_) (.lbind ha ht);unfold lH;rw [iA,bB,List.cons_append,fN,fY,if_pos (by decide)];show kR true (Cs s::(dB [40]::(aK (nG (ks.map pcN))++[dB [41]])++rest)) _=_;rw [FN,List.cons_append,fY,if_pos (by decide),List.append_assoc];rfl
theorem Cc (n:Nat) (w:World) :
  Calls Tryz.prog 81 #[.int .u8 (n:Int)] w fun e w'=>e=.returned (.bool (gD n))∧w=w':=by
 by_cases h1:32≤n
 ·by_cases h2:n≤126
  ·by_cases h3:n=34
   ·subst h3;go_enter Tryz.func81,Tryz.ntmps81;go_wp2;go_ret;exact⟨rfl,rfl⟩
   ·have e3:((n:Int) != 34)=true:=bne_iff_ne.2 (by omega);by_cases h4:n=92
    ·subst h4;go_enter Tryz.func81,Tryz.ntmps81;go_wp2;go_ret;exact⟨rfl,rfl⟩
    ·have e4:((n:Int) != 92)=true:=bne_iff_ne.2 (by omega);have H:=aA (show gD n=true by simp [gD];omega);clear h3 h4;go_enter Tryz.func81,Tryz.ntmps81;go_wp2;go_ret;exact⟨by rw [H.out];rfl,rfl⟩
  ·have H:=aA (show gD n=false by simp [gD];omega);go_enter Tryz.func81,Tryz.ntmps81;go_wp2;go_ret;exact⟨by rw [H.out];rfl,rfl⟩
 ·have H:=aA (show gD n=false by simp [gD];omega);go_enter Tryz.func81,Tryz.ntmps81;go_wp2;go_ret;exact⟨by rw [H.out];rfl,rfl⟩
end Go.Proofs.YtdnnmjhfidimcaaGreatDoor
