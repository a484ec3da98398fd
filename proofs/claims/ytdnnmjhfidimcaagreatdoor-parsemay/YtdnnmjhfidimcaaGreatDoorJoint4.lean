/- Nodes in memory. One step of reading tokens. Tokens that may be come back from their text. How high a tree is. How many nodes a tree has. slices.ContainsFunc over nodes and over texts; whether a tree is too high. -/
import Derived.Test.YtdnnmjhfidimcaaGreatDoorProg
import Derived.Test.YtdnnmjhfidimcaaGreatDoorJoint2
import Derived.Lib.Strings
import Derived.Lib.Builder
import Derived.Test.YtdnnmjhfidimcaaGreatDoorJoint1
namespace Go.Proofs.YtdnnmjhfidimcaaGreatDoor
set_option maxHeartbeats 1600000
open Go.RowKit
def Fl (b off:Nat) (l:List ByteArray) (w:World):Prop:=∀ (i:Nat) (h:i<l.length),w.cell? ⟨b,off+i,none⟩=some (.string l[i])
def cA (B:Nat) (v:Value) (l:List ByteArray) (w:World):Prop:=
 (∃ ao cap,v=.slice ao 0 cap∧l=[])∨∃ b off cap,v=.slice (some ⟨b,off,none⟩) l.length cap∧b<B∧Fl b off l w∧l.length≤cap
def bK (b o:Nat) (k op n:Int) (s:ByteArray) (nv kv:Value) (p:Int) (w:World):Prop:=
 w.cell? ⟨b,o,none⟩=some (.int .i64 k)∧w.cell? ⟨b,o+1,none⟩=some (.int .i64 op)∧w.cell? ⟨b,o+2,none⟩=some (.int .i64 n)∧w.cell? ⟨b,o+3,none⟩=some (.string s)∧
  w.cell? ⟨b,o+4,none⟩=some nv∧w.cell? ⟨b,o+5,none⟩=some kv∧w.cell? ⟨b,o+6,none⟩=some (.int .i64 p)
mutual
def lB (B:Nat) (w:World):Nd→Value→Value→Prop
 | .mk _ _ _ _ ns ks _,nv,kv=>cA B nv ns w∧((∃ ao cap,kv=.slice ao 0 cap∧ks=[])∨∃ b off cap,kv=.slice (some ⟨b,off,none⟩) ks.length cap∧b<B∧jZ B w b ks off∧ks.length≤cap)
def jZ (B:Nat) (w:World) (b:Nat):List Nd→Nat→Prop
 | [],_=>True
 | .mk k op n s ns ks p::r,off=>(∃ nv kv,bK b off k op n s nv kv p w∧lB B w (.mk k op n s ns ks p) nv kv)∧jZ B w b r (off+7)
end
def dA (B:Nat) (w:World) (kv:Value) (ks:List Nd):Prop:=
 (∃ ao cap,kv=.slice ao 0 cap∧ks=[])∨∃ b off cap,kv=.slice (some ⟨b,off,none⟩) ks.length cap∧b<B∧jZ B w b ks off∧ks.length≤cap
theorem ndIn_mk {B:Nat} {w:World} {k o n:Int} {s:ByteArray} {ns:List ByteArray} {ks:List Nd} {p:Int} {nv kv:Value} : lB B w (.mk k o n s ns ks p) nv kv↔cA B nv ns w∧dA B w kv ks:=by
 rw [lB];rfl
theorem cN {B:Nat} {a c:World} (k:Below B a c) {g i:Nat} {v:Value} (hg:g<B) (hc:a.cell? ⟨g,i,none⟩=some v):c.cell? ⟨g,i,none⟩=some v:=
 (k.cell (p:=⟨g,i,none⟩) hg).trans hc
theorem eB {B:Nat} {v:Value} {l:List ByteArray} {a c:World} (h:cA B v l a) (k:Below B a c):cA B v l c:=by
 rcases h with h | ⟨b,off,cap,h1,h2,h3,h4⟩
 ·exact .inl h
 ·exact .inr ⟨b,off,cap,h1,h2,fun i hi=>cN k h2 (h3 i hi),h4⟩
theorem aG {B b o:Nat} {k op n:Int} {s:ByteArray} {nv kv:Value} {p:Int} {a c:World} (h:bK b o k op n s nv kv p a) (hb:b<B) (q:Below B a c):bK b o k op n s nv kv p c:=by
 obtain⟨h0,h1,h2,h3,h4,h5,h6⟩:=h;exact⟨cN q hb h0,cN q hb h1,cN q hb h2,cN q hb h3,cN q hb h4,cN q hb h5,cN q hb h6⟩
mutual
theorem iN {B:Nat} {a c:World} (q:Below B a c):∀ (t:Nd) (nv kv:Value),lB B a t nv kv→lB B c t nv kv
 | .mk _ _ _ _ ns ks _,nv,kv,h=>by
  rw [lB] at h ⊢;obtain⟨h1,h2⟩:=h;refine⟨eB h1 q,?_⟩;rcases h2 with h2 | ⟨b,off,cap,e,hb,h3,h4⟩
  ·exact .inl h2
  ·exact .inr ⟨b,off,cap,e,hb,gC q hb ks off h3,h4⟩
theorem gC {B:Nat} {a c:World} (q:Below B a c) {b:Nat} (hb:b<B):∀ (ks:List Nd) (off:Nat),jZ B a b ks off→jZ B c b ks off
 | [],_,_=>by rw [jZ];trivial
 | .mk k op n s ns ks p::r,off,h=>by
  rw [jZ] at h ⊢;obtain⟨⟨nv,kv,h1,h2⟩,h3⟩:=h;exact⟨⟨nv,kv,aG h1 hb q,iN q _ _ _ h2⟩,gC q hb r _ h3⟩
end
theorem dV {B:Nat} {a c:World} (q:Below B a c) {kv:Value} {ks:List Nd} (h:dA B a kv ks):dA B c kv ks:=by
 rcases h with h2 | ⟨b,off,cap,e,hb,h3,h4⟩
 ·exact .inl h2
 ·exact .inr ⟨b,off,cap,e,hb,gC q hb ks off h3,h4⟩
theorem fZ {B:Nat} {w:World} {b:Nat} : ∀ {ks:List Nd} {off:Nat},jZ B w b ks off→∀ (i:Nat) (h:i<ks.length),
  ∃ nv kv,bK b (off+i*7) ks[i].kind ks[i].op ks[i].num ks[i].str nv kv ks[i].pl w∧lB B w ks[i] nv kv
 | .mk k op n s ns ks p::r,off,h,0,hi=>by
  rw [jZ] at h;obtain⟨⟨nv,kv,h1,h2⟩,_⟩:=h;exact⟨nv,kv,by simpa [Nd.kind,Nd.op,Nd.num,Nd.str,Nd.pl] using h1,h2⟩
 | .mk k op n s ns ks p::r,off,h,i+1,hi=>by
  rw [jZ] at h;obtain⟨nv,kv,h1,h2⟩:=fZ h.2 i (by simpa using hi);refine⟨nv,kv,?_,by simpa using h2⟩;have e:off+(i+1)*7=off+7+i*7:=by omega
  rw [e];simpa using h1
theorem eM {B:Nat} {w:World} {kv:Value} {ks:List Nd} (h:dA B w kv ks) :
  ∃ ao cap,kv=.slice ao ks.length cap∧(ks=[]∨∃ b off,ao=some ⟨b,off,none⟩∧b<B∧jZ B w b ks off):=by
 rcases h with ⟨ao,cap,e1,e2⟩ | ⟨b,off,cap,e,hb,h3,_⟩
 ·subst e2;exact⟨ao,cap,e1,.inl rfl⟩
 ·exact⟨_,cap,e,.inr ⟨b,off,rfl,hb,h3⟩⟩
theorem fS {B:Nat} {w:World} {v:Value} {l:List ByteArray} (h:cA B v l w) :
  ∃ ao cap,v=.slice ao l.length cap∧(l=[]∨∃ b off,ao=some ⟨b,off,none⟩∧b<B∧Fl b off l w):=by
 rcases h with ⟨ao,cap,e1,e2⟩ | ⟨b,off,cap,e,hb,h3,_⟩
 ·subst e2;exact⟨ao,cap,e1,.inl rfl⟩
 ·exact⟨_,cap,e,.inr ⟨b,off,rfl,hb,h3⟩⟩
theorem zB {B:Nat} {w:World} {a:Option Addr} {c q:Nat} {l:List Nd} (h:dA B w (.slice a c q) l):l=[]∨c≤q:=by
 rcases h with ⟨_,_,_,h⟩ | ⟨b,off,cap,e,_,_,h4⟩
 ·exact .inl h
 ·injection e with _ e2 e3;exact .inr (by omega)
theorem bY {B:Nat} {w:World} {t:Nd} {nv kv:Value} (h:lB B w t nv kv):∃ a1 c1 a2 c2,nv=.slice a1 t.names.length c1∧kv=.slice a2 t.kids.length c2:=by
 obtain⟨k,o,n,s,ns,ks,p⟩:=t;obtain⟨h1,h2⟩:=ndIn_mk.1 h;obtain⟨a1,c1,e1,_⟩:=fS h1;obtain⟨a2,c2,e2,_⟩:=eM h2;exact⟨a1,c1,a2,c2,e1,e2⟩
def mL (g:Nat) (k o n:Int) (s:ByteArray) (nv kv:Value) (p:Int) (w:World):Prop:=
 w.heap[g]? = some (.cells #[.int .i64 k,.int .i64 o,.int .i64 n,.string s,nv,kv,.int .i64 p] 26 (0,0))
theorem Cs {g:Nat} {k o n:Int} {s:ByteArray} {nv kv:Value} {p:Int} {w:World} (h:mL g k o n s nv kv p w):g<w.heap.size:=by
 rcases Nat.lt_or_ge g w.heap.size with h' | h'
 ·exact h'
 ·simp [mL,Array.getElem?_eq_none h'] at h
theorem cH (w:World) (k o n:Int) (s:ByteArray) (nv kv:Value) (p:Int):mL w.heap.size k o n s nv kv p (w.alloc (.cells #[.int .i64 k,.int .i64 o,.int .i64 n,.string s,nv,kv,.int .i64 p] 26)):=
 heap_alloc_new w _
theorem nR {g:Nat} {k o n:Int} {s:ByteArray} {nv kv:Value} {p:Int} {a c:World} (h:mL g k o n s nv kv p a) (q:Below a.heap.size a c):mL g k o n s nv kv p c:=
 (q.block g (Cs h)).trans h
theorem aJ {g:Nat} {k o n:Int} {s:ByteArray} {nv kv:Value} {p:Int} {w:World} (h:mL g k o n s nv kv p w) :
  w.cell? ⟨g,0,none⟩=some (.int .i64 k)∧w.cell? ⟨g,1,none⟩=some (.int .i64 o)∧w.cell? ⟨g,2,none⟩=some (.int .i64 n)∧w.cell? ⟨g,3,none⟩=some (.string s)∧
   w.cell? ⟨g,4,none⟩=some nv∧w.cell? ⟨g,5,none⟩=some kv∧w.cell? ⟨g,6,none⟩=some (.int .i64 p):=by
 refine⟨?_,?_,?_,?_,?_,?_,?_⟩<;>(rw [Lib.cell_of_heap h];rfl)
theorem bC (w:World) (x:Obj):Below w.heap.size w (w.alloc x):=(Below.refl _ _).alloc (Nat.le_refl _) _
theorem kE (w:World) (x y:Obj):Below w.heap.size w ((w.alloc x).alloc y):=((Below.refl _ _).alloc (Nat.le_refl _) _).alloc (by simp) _
theorem LE (w:World) (k o n:Int) (s:ByteArray) (nv kv:Value) (p k' o' n':Int) (s':ByteArray) (nv' kv':Value) (p':Int) :
  mL w.heap.size k o n s nv kv p ((w.alloc (.cells #[.int .i64 k,.int .i64 o,.int .i64 n,.string s,nv,kv,.int .i64 p] 26)).alloc (.cells #[.int .i64 k',.int .i64 o',.int .i64 n',.string s',nv',kv',.int .i64 p'] 26))∧
  mL (w.heap.size+1) k' o' n' s' nv' kv' p' ((w.alloc (.cells #[.int .i64 k,.int .i64 o,.int .i64 n,.string s,nv,kv,.int .i64 p] 26)).alloc (.cells #[.int .i64 k',.int .i64 o',.int .i64 n',.string s',nv',kv',.int .i64 p'] 26)):=by
 refine⟨nR (cH w k o n s nv kv p) ((Below.refl _ _).alloc (Nat.le_refl _) _),?_⟩;have:=cH (w.alloc (.cells #[.int .i64 k,.int .i64 o,.int .i64 n,.string s,nv,kv,.int .i64 p] 26)) k' o' n' s' nv' kv' p';simpa using this
theorem BM {s:ByteArray} {f k:Nat} {acc:List Tok} (h:s.size≤k):jI s (f+1) k acc=(acc++[⟨6,⟨#[]⟩,0,s.size⟩],0,0):=by rw [jI,if_pos h]
theorem KB {s:ByteArray} {f k:Nat} {acc:List Tok} {o:TokOut} (h:k<s.size) (ho:cO (s.data.toList.drop k) k=o) (he:o.2.2≠0):jI s (f+1) k acc=([],o.2.1,o.2.2):=by
 rw [jI,if_neg (by omega),ho,if_pos he]
theorem Af {s:ByteArray} {f k:Nat} {acc:List Tok} {o:TokOut} (h:k<s.size) (ho:cO (s.data.toList.drop k) k=o) (he:o.2.2=0) (hf:acc.length=600):jI s (f+1) k acc=([],k,5):=by
 rw [jI,if_neg (by omega),ho,if_neg (by rw [he];decide),if_pos hf]
theorem Ag {s:ByteArray} {f k:Nat} {acc:List Tok} {o:TokOut} (h:k<s.size) (ho:cO (s.data.toList.drop k) k=o) (he:o.2.2=0) (hf:acc.length≠600) :
  jI s (f+1) k acc=jI s f (skipTo false s o.2.1) (acc++[o.1]):=by
 rw [jI,if_neg (by omega),ho,if_neg (by rw [he];decide),if_neg hf]
theorem yK:∀ (f m:Nat),(yE f m).all kS=true
 | 0,_=>by simp [yE]
 | f+1,m=>by
  unfold yE;split
  ·rename_i h;simp only [List.all_cons,List.all_nil,kS,xB h];simp;omega
  ·rw [List.all_append,yK f (m / 10)];simp only [List.all_cons,List.all_nil,kS,wE];simp;omega
theorem MD:∀ (f m:Nat),yE (f+1) m≠[]:=by
 intro f m;unfold yE;split<;>simp
theorem BN:∀ (f m:Nat),m<10 ^ f→(m≤4611686018427387903→nZ (yE f m)=((m:Int),false))∧(4611686018427387903<m→(nZ (yE f m)).2=true)
 | 0,m,h=>by
  have:m=0:=by simpa using h
  subst this;exact⟨fun _=>rfl,fun h=>absurd h (by decide)⟩
 | f+1,m,h=>by
  by_cases hs:m<10
  ·rw [Br hs];refine⟨fun _=>?_,fun h=>by omega⟩;simp only [nZ,List.foldl_cons,List.foldl_nil,xB hs,nX];rw [if_neg (by simp;omega)];simp;omega
  ·rw [Ih (by omega),Du,wE];have hq:m / 10<10 ^ f:=by rw [Nat.pow_succ] at h;omega
   have ih:=BN f (m / 10) hq;refine⟨fun hm=>?_,fun hm=>?_⟩
   ·rw [ih.1 (by omega)];unfold nX;rw [if_neg (by simp;omega)];simp;omega
   ·by_cases hq2:m / 10≤4611686018427387903
    ·rw [ih.1 hq2];unfold nX;rw [if_pos (by right;simp;omega)]
    ·unfold nX;rw [if_pos (Or.inl (ih.2 (by omega)))]
theorem Ox {n:Int} (h0:0≤n) (h1:n≤4611686018427387903):fA (digs n)=(n,0):=by
 unfold digs;rw [if_neg (by omega),uT (MD _ _) (yK _ _),(BN 20 n.natAbs (by omega)).1 (by omega)];unfold wD;simp;omega
theorem Ej (x r:List UInt8):(x++r).take x.length=x:=by simp
theorem rU (s:ByteArray):(⟨s.data.toList.toArray⟩:ByteArray)=s:=by cases s;simp
theorem Ek {b:UInt8} {x r:List UInt8} {k:Nat} (h:bW b.toNat=true):cO (b::x++r) k=jY (b::x++r) k:=by
 show cO (b::(x++r)) k=jY (b::(x++r)) k;unfold cO;simp only;rw [if_pos h]
theorem xK {n:Nat} (h:bW n=true):fN n=true:=by simp [fN,h]
theorem CG {n:Nat} (h:bX n=true):bW n=false:=by
 simp [bX] at h;simp [bW];omega
theorem KC:∀ x∈keyL,∃ b r,x=b::r∧bW b.toNat=true∧∀ c∈x,fN c.toNat=true:=by
 have h:∀ x∈keyL,(match x with | []=>false | b::_=>bW b.toNat)=true∧x.all (fun c=>fN c.toNat)=true:=by decide
 intro x hx;obtain⟨h1,h2⟩:=h x hx;cases x with
 | nil=>cases h1
 | cons b r=>exact⟨b,r,rfl,h1,fun c hc=>List.all_eq_true.1 h2 c hc⟩
theorem uE {x:List UInt8} (h:nameB x=true):∃ b r,x=b::r∧bW b.toNat=true∧∀ c∈x,fN c.toNat=true:=by
 cases x with
 | nil=>cases h
 | cons b r=>
  simp only [nameB,Bool.and_eq_true,List.all_eq_true] at h;refine⟨b,r,rfl,h.1.1,?_⟩;intro c hc;rcases List.mem_cons.1 hc with rfl | hc
  ·exact xK h.1.1
  ·exact h.1.2 c hc
def Tok.put (t:Tok) (k:Nat):Tok:=⟨t.kind,t.text,t.num,k⟩
theorem KD {b:UInt8} {y:List UInt8} {k:Nat} (h:iA b.toNat=true):(cO (b::y) k).2.2=11:=by
 have h3:b=32∨b=10∨b=9:=by
  simp [iA] at h;rcases h with h | h | h
  ·left;exact UInt8.toNat_inj.1 h
  ·right;left;exact UInt8.toNat_inj.1 h
  ·right;right;exact UInt8.toNat_inj.1 h
 rcases h3 with rfl | rfl | rfl<;>rfl
def bare (t:Tok):Int×ByteArray×Int:=(t.kind,t.text,t.num)
theorem ML {α:Type} (l:List α) (i:Nat) (h:i<l.length):l.take (i+1)=l.take i++[l[i]]:=by
 rw [List.take_succ_eq_append_getElem h]
theorem CT (t:Nd):∀ (B:Nat) (w:World) (nv kv:Value),B≤w.heap.size→Hid (lB B w t nv kv)→bH t≤1000000→
  Calls Tryz.prog 39 #[.agg #[.int .i64 t.kind,.int .i64 t.op,.int .i64 t.num,.string t.str,nv,kv,.int .i64 t.pl]] w fun e w'=>
   e=.returned (.int .i64 (fF t))∧Below w.heap.size w w':=by
 refine Nd.ind (P:=fun t=>∀ (B:Nat) (w:World) (nv kv:Value),B≤w.heap.size→Hid (lB B w t nv kv)→bH t≤1000000→
  Calls Tryz.prog 39 #[.agg #[.int .i64 t.kind,.int .i64 t.op,.int .i64 t.num,.string t.str,nv,kv,.int .i64 t.pl]] w fun e w'=>
   e=.returned (.int .i64 (fF t))∧Below w.heap.size w w') ?_ t
 clear t;intro k o n s ns ks p ih B w nv kv hB hN hc;obtain⟨hs,hk⟩:=ndIn_mk.1 hN.out;obtain⟨ao,cap,rfl,hks⟩:=eM hk;clear hk hN hs;have hlen:=dW ks;have hhc:=xF ks;simp only [bH] at hc;simp only [Nd.kind,Nd.op,Nd.num,Nd.str,Nd.pl];have IH:=aA ih;have KS:=aA hks;have HC:=aA (show fF (.mk k o n s ns ks p)=hD ks+1 by simp [fF]);clear ih hks;go_enter Tryz.func39,Tryz.ntmps39;go_wp2_with fail;go_loopw [3,9] (fun a i wr=>∃ j:Nat,j≤ks.length∧i=.int .i64 j∧a=.int .i64 (hD (ks.take j))∧Below w.heap.size w wr) (fun _ i _=>ks.length - (intOf i).toNat)
 case atStart=>exact⟨0,Nat.zero_le _,rfl,rfl,(Below.refl _ _).alloc (Nat.le_refl _) _⟩
 case round=>
  obtain⟨j,hj,rfl,rfl,hb⟩:=hrel;have hct:=zA ks j;by_cases hjl:j<ks.length
  ·obtain⟨b,off,rfl,hbB,hat⟩:=KS.out.resolve_left (fun h=>by rw [h] at hjl;cases hjl);obtain⟨nv',kv',hnode,hin⟩:=fZ hat j hjl;have hb':=hb.mono hB;obtain⟨c0,c1,c2,c3,c4,c5,c6⟩:=aG hnode hbB hb';have hin':=iN hb' _ _ _ hin;have ih:=IH.out ks[j] (List.getElem_mem hjl);have hcm:=jA (List.getElem_mem hjl);have HT:=aA (show hD (ks.take (j+1))=max (hD (ks.take j)) (fF ks[j]) by rw [ML ks j hjl,Fj]);have hct1:=zA ks (j+1);rw [HT.out] at hct1;generalize ks[j]=x at *
   have N:=aA hin';have BB:=aA hb;have hsz:=hb.size;obtain⟨a1,q1,a2,q2,rfl,rfl⟩:=bY hin;have IH':=aA ih;clear hin hin' hnode hat hb hb' ih KS IH;go_wp2_with fail;refine (IH'.out B _ _ _ (by simp;omega) (aA (iN ((Below.refl B wr).alloc (by omega) _) _ _ _ N.out)) (by omega)).mono ?_;rintro e w1 ⟨rfl,b1⟩;have B1:=aA ((BB.out.alloc hsz _).trans (b1.mono (by simp;omega)));clear b1 BB N;go_wp2_with fail;go_roundw
   case rel=>exact⟨j+1,by omega,by go_num,by rw [HT.out];go_num,B1.out⟩
   case measure=>simp [intOf];omega
  ·have e:ks.take j=ks:=List.take_of_length_le (by omega);have BB:=aA hb;clear hb;go_wp2_with fail;go_ret;exact⟨by rw [HC.out,e];rfl,BB.out⟩
theorem Hi {α:Type} (P:α→Bool) (l:List α) (h:∀ (q:Nat) (hq:q<l.length),P l[q]=false):l.any P=false:=by
 rw [List.any_eq_false];intro x hx;obtain⟨q,hq,rfl⟩:=List.getElem_of_mem hx;simp [h q hq]
theorem Dk {α:Type} (P:α→Bool) (l:List α) {q:Nat} (hq:q<l.length) (h:P l[q]=true):l.any P=true:=by
 rw [List.any_eq_true];exact⟨_,List.getElem_mem hq,h⟩
def Ql (P:Nd→Bool) (B:Nat) (cap:Value) (ks:List Nd) (w:World):Prop:=∀ x∈ks,∀ (w':World) (nv kv:Value),Below w.heap.size w w'→Hid (lB B w' x nv kv)→
  Calls Tryz.prog 59 #[.agg #[.int .i64 x.kind,.int .i64 x.op,.int .i64 x.num,.string x.str,nv,kv,.int .i64 x.pl],cap] w' fun e w''=>e=.returned (.bool (P x))∧Below w'.heap.size w' w''
theorem Nr (P:Nd→Bool) (B:Nat) (cap:Value) (w:World) (kv:Value) (ks:List Nd) (hB:B≤w.heap.size) (h1:Hid (dA B w kv ks)) (hc:ks.length≤1000000) (CL:Hid (Ql P B cap ks w)) :
  Calls Tryz.prog 84 #[kv,.func (.func 59) #[] #[cap]] w fun e w'=>(∃ r:Int,e=.returned (.int .i64 r)∧decide (0≤r)=ks.any P)∧Below w.heap.size w w':=by
 obtain⟨ao,cp,rfl,hks⟩:=eM h1.out;have K1:=aA hks;clear hks h1;go_enter Tryz.func84,Tryz.ntmps84;go_wp2_with fail;go_loopw [8] (fun i wr=>∃ j:Nat,j≤ks.length∧i=.int .i64 j∧(∀ (q:Nat) (hq:q<ks.length),q<j→P ks[q]=false)∧Below w.heap.size w wr) (fun i _=>ks.length - (intOf i).toNat)
 case atStart=>exact⟨0,Nat.zero_le _,rfl,fun q _ h=>absurd h (Nat.not_lt_zero _),Below.refl _ _⟩
 case round=>
  obtain⟨j,hj,rfl,hq,hb⟩:=hrel;have BB:=aA hb;by_cases hjl:j<ks.length
  ·obtain⟨b,off,rfl,hbB,hat⟩:=K1.out.resolve_left (fun h=>by rw [h] at hjl;cases hjl);obtain⟨nv1,kv1,hnode,hin⟩:=fZ hat j hjl;have hb':=hb.mono hB;obtain⟨c0,c1,c2,c3,c4,c5,c6⟩:=aG hnode hbB hb';have N1:=aA (iN hb' _ _ _ hin);have cl:=aA (CL.out ks[j] (List.getElem_mem hjl) wr nv1 kv1 hb N1);have HY:=aA (fun h=>Dk P ks hjl h);have HQ:=aA (fun (he:P ks[j]=false)=>show ∀ (q:Nat) (hq:q<ks.length),q<j+1→P ks[q]=false from fun q h1 h3=>by
    rcases Nat.lt_or_ge q j with h4 | h4
    ·exact hq q h1 h4
    ·obtain rfl:q=j:=by omega
     exact he)
   generalize ks[j]=x at *
   obtain⟨a1,q1,a2,q2,rfl,rfl⟩:=bY hin;clear hin hnode hat hb hb' K1 CL hq N1;go_wp2_with fail;refine cl.out.mono ?_;rintro e w1 ⟨rfl,b1⟩;have B1:=aA (aH BB.out (Nat.le_refl _) b1);clear b1 BB cl;generalize P x=sb at *
   cases sb
   ·have H:=aA (HQ.out rfl);clear HY HQ;go_wp2_with fail;go_roundw
    case rel=>exact⟨j+1,by omega,by go_num,H.out,B1.out⟩
    case measure=>simp [intOf];omega
   ·have H:=aA (HY.out rfl);clear HY HQ;go_wp2_with fail;go_ret;exact⟨⟨j,rfl,by rw [H.out];simp⟩,B1.out⟩
  ·have H:=aA (Hi P ks (fun q h1=>hq q h1 (by omega)));clear hq hb;go_wp2_with fail;go_ret;exact⟨⟨-1,rfl,by rw [H.out];rfl⟩,BB.out⟩
theorem ES (P:Nd→Bool) (B:Nat) (cap:Value) (w:World) (kv:Value) (ks:List Nd) (hB:B≤w.heap.size) (h1:Hid (dA B w kv ks)) (hc:ks.length≤1000000) (CL:Hid (Ql P B cap ks w)) :
  Calls Tryz.prog 58 #[kv,.func (.func 59) #[] #[cap]] w fun e w'=>e=.returned (.bool (ks.any P))∧Below w.heap.size w w':=by
 go_enter Tryz.func58,Tryz.ntmps58;go_wp2_with fail;refine (Nr P B cap w kv ks hB h1 hc CL).mono ?_;rintro e w1 ⟨⟨r,rfl,hr⟩,b1⟩;have B1:=aA b1;have HR:=aA hr;clear b1 hr;go_wp2_with fail;go_ret;exact⟨by rw [← HR.out];rfl,B1.out⟩
def IW (P:Nd→Bool) (B:Nat) (cap:Value) (ks:List Nd) (w:World):Prop:=∀ x∈ks,∀ (w':World) (nv kv:Value),Below w.heap.size w w'→Hid (lB B w' x nv kv)→
  Calls Tryz.prog 119 #[.agg #[.int .i64 x.kind,.int .i64 x.op,.int .i64 x.num,.string x.str,nv,kv,.int .i64 x.pl],cap] w' fun e w''=>e=.returned (.bool (P x))∧Below w'.heap.size w' w''
theorem Lj (P:Nd→Bool) (B:Nat) (cap:Value) (w:World) (kv:Value) (ks:List Nd) (hB:B≤w.heap.size) (h1:Hid (dA B w kv ks)) (hc:ks.length≤1000000) (CL:Hid (IW P B cap ks w)) :
  Calls Tryz.prog 84 #[kv,.func (.func 119) #[] #[cap]] w fun e w'=>(∃ r:Int,e=.returned (.int .i64 r)∧decide (0≤r)=ks.any P)∧Below w.heap.size w w':=by
 obtain⟨ao,cp,rfl,hks⟩:=eM h1.out;have K1:=aA hks;clear hks h1;go_enter Tryz.func84,Tryz.ntmps84;go_wp2_with fail;go_loopw [8] (fun i wr=>∃ j:Nat,j≤ks.length∧i=.int .i64 j∧(∀ (q:Nat) (hq:q<ks.length),q<j→P ks[q]=false)∧Below w.heap.size w wr) (fun i _=>ks.length - (intOf i).toNat)
 case atStart=>exact⟨0,Nat.zero_le _,rfl,fun q _ h=>absurd h (Nat.not_lt_zero _),Below.refl _ _⟩
 case round=>
  obtain⟨j,hj,rfl,hq,hb⟩:=hrel;have BB:=aA hb;by_cases hjl:j<ks.length
  ·obtain⟨b,off,rfl,hbB,hat⟩:=K1.out.resolve_left (fun h=>by rw [h] at hjl;cases hjl);obtain⟨nv1,kv1,hnode,hin⟩:=fZ hat j hjl;have hb':=hb.mono hB;obtain⟨c0,c1,c2,c3,c4,c5,c6⟩:=aG hnode hbB hb';have N1:=aA (iN hb' _ _ _ hin);have cl:=aA (CL.out ks[j] (List.getElem_mem hjl) wr nv1 kv1 hb N1);have HY:=aA (fun h=>Dk P ks hjl h);have HQ:=aA (fun (he:P ks[j]=false)=>show ∀ (q:Nat) (hq:q<ks.length),q<j+1→P ks[q]=false from fun q h1 h3=>by
    rcases Nat.lt_or_ge q j with h4 | h4
    ·exact hq q h1 h4
    ·obtain rfl:q=j:=by omega
     exact he)
   generalize ks[j]=x at *
   obtain⟨a1,q1,a2,q2,rfl,rfl⟩:=bY hin;clear hin hnode hat hb hb' K1 CL hq N1;go_wp2_with fail;refine cl.out.mono ?_;rintro e w1 ⟨rfl,b1⟩;have B1:=aA (aH BB.out (Nat.le_refl _) b1);clear b1 BB cl;generalize P x=sb at *
   cases sb
   ·have H:=aA (HQ.out rfl);clear HY HQ;go_wp2_with fail;go_roundw
    case rel=>exact⟨j+1,by omega,by go_num,H.out,B1.out⟩
    case measure=>simp [intOf];omega
   ·have H:=aA (HY.out rfl);clear HY HQ;go_wp2_with fail;go_ret;exact⟨⟨j,rfl,by rw [H.out];simp⟩,B1.out⟩
  ·have H:=aA (Hi P ks (fun q h1=>hq q h1 (by omega)));clear hq hb;go_wp2_with fail;go_ret;exact⟨⟨-1,rfl,by rw [H.out];rfl⟩,BB.out⟩
theorem vU (P:Nd→Bool) (B:Nat) (cap:Value) (w:World) (kv:Value) (ks:List Nd) (hB:B≤w.heap.size) (h1:Hid (dA B w kv ks)) (hc:ks.length≤1000000) (CL:Hid (IW P B cap ks w)) :
  Calls Tryz.prog 58 #[kv,.func (.func 119) #[] #[cap]] w fun e w'=>e=.returned (.bool (ks.any P))∧Below w.heap.size w w':=by
 go_enter Tryz.func58,Tryz.ntmps58;go_wp2_with fail;refine (Lj P B cap w kv ks hB h1 hc CL).mono ?_;rintro e w1 ⟨⟨r,rfl,hr⟩,b1⟩;have B1:=aA b1;have HR:=aA hr;clear b1 hr;go_wp2_with fail;go_ret;exact⟨by rw [← HR.out];rfl,B1.out⟩
def IX (P:ByteArray→Bool) (cap:Value) (ks:List ByteArray) (w:World):Prop:=∀ x∈ks,∀ (w':World),Below w.heap.size w w'→
  Calls Tryz.prog 167 #[.string x,cap] w' fun e w''=>e=.returned (.bool (P x))∧Below w'.heap.size w' w''
theorem Lk (P:ByteArray→Bool) (B:Nat) (cap:Value) (w:World) (kv:Value) (ks:List ByteArray) (hB:B≤w.heap.size) (h1:Hid (cA B kv ks w)) (hc:ks.length≤1000000) (CL:Hid (IX P cap ks w)) :
  Calls Tryz.prog 180 #[kv,.func (.func 167) #[] #[cap]] w fun e w'=>(∃ r:Int,e=.returned (.int .i64 r)∧decide (0≤r)=ks.any P)∧Below w.heap.size w w':=by
 obtain⟨ao,cp,rfl,hks⟩:=fS h1.out;have K1:=aA hks;clear hks h1;go_enter Tryz.func180,Tryz.ntmps180;go_wp2_with fail;go_loopw [8] (fun i wr=>∃ j:Nat,j≤ks.length∧i=.int .i64 j∧(∀ (q:Nat) (hq:q<ks.length),q<j→P ks[q]=false)∧Below w.heap.size w wr) (fun i _=>ks.length - (intOf i).toNat)
 case atStart=>exact⟨0,Nat.zero_le _,rfl,fun q _ h=>absurd h (Nat.not_lt_zero _),Below.refl _ _⟩
 case round=>
  obtain⟨j,hj,rfl,hq,hb⟩:=hrel;have BB:=aA hb;by_cases hjl:j<ks.length
  ·obtain⟨b,off,rfl,hbB,hat⟩:=K1.out.resolve_left (fun h=>by rw [h] at hjl;cases hjl);have c0:=cN (hb.mono hB) hbB (hat j hjl);have cl:=aA (CL.out ks[j] (List.getElem_mem hjl) wr hb);have HY:=aA (fun h=>Dk P ks hjl h);have HQ:=aA (fun (he:P ks[j]=false)=>show ∀ (q:Nat) (hq:q<ks.length),q<j+1→P ks[q]=false from fun q h1 h3=>by
    rcases Nat.lt_or_ge q j with h4 | h4
    ·exact hq q h1 h4
    ·obtain rfl:q=j:=by omega
     exact he)
   generalize ks[j]=x at *
   clear hat hb K1 CL hq;go_wp2_with fail;refine cl.out.mono ?_;rintro e w1 ⟨rfl,b1⟩;have B1:=aA (aH BB.out (Nat.le_refl _) b1);clear b1 BB cl;generalize P x=sb at *
   cases sb
   ·have H:=aA (HQ.out rfl);clear HY HQ;go_wp2_with fail;go_roundw
    case rel=>exact⟨j+1,by omega,by go_num,H.out,B1.out⟩
    case measure=>simp [intOf];omega
   ·have H:=aA (HY.out rfl);clear HY HQ;go_wp2_with fail;go_ret;exact⟨⟨j,rfl,by rw [H.out];simp⟩,B1.out⟩
  ·have H:=aA (Hi P ks (fun q h1=>hq q h1 (by omega)));clear hq hb;go_wp2_with fail;go_ret;exact⟨⟨-1,rfl,by rw [H.out];rfl⟩,BB.out⟩
theorem vV (P:ByteArray→Bool) (B:Nat) (cap:Value) (w:World) (kv:Value) (ks:List ByteArray) (hB:B≤w.heap.size) (h1:Hid (cA B kv ks w)) (hc:ks.length≤1000000) (CL:Hid (IX P cap ks w)) :
  Calls Tryz.prog 166 #[kv,.func (.func 167) #[] #[cap]] w fun e w'=>e=.returned (.bool (ks.any P))∧Below w.heap.size w w':=by
 go_enter Tryz.func166,Tryz.ntmps166;go_wp2_with fail;refine (Lk P B cap w kv ks hB h1 hc CL).mono ?_;rintro e w1 ⟨⟨r,rfl,hr⟩,b1⟩;have B1:=aA b1;have HR:=aA hr;clear b1 hr;go_wp2_with fail;go_ret;exact⟨by rw [← HR.out];rfl,B1.out⟩
theorem Ns {k o n:Int} {s:ByteArray} {ns:List ByteArray} {ks:List Nd} {p:Int} {m:Nat} (hm:m≠0):ks.any (fun x=>decide (m - 1<fF x))=decide (m<fF (.mk k o n s ns ks p)):=by
 have key:∀ ks:List Nd,ks.any (fun x=>decide (m - 1<fF x))=decide (m - 1<hD ks):=by
  intro ks;induction ks with
  | nil=>simp [hD]
  | cons x r ih=>
   rw [List.any_cons,ih,hD,Bool.eq_iff_iff,Bool.or_eq_true,decide_eq_true_iff,decide_eq_true_iff,decide_eq_true_iff];omega
 rw [key,fF,Bool.eq_iff_iff,decide_eq_true_iff,decide_eq_true_iff];omega
def Nw (x:Nd):Prop:=∀ (B:Nat) (w:World) (nv kv:Value) (m:Nat),B≤w.heap.size→Hid (lB B w x nv kv)→bH x≤1000000→m≤1000→
  Calls Tryz.prog 33 #[.agg #[.int .i64 x.kind,.int .i64 x.op,.int .i64 x.num,.string x.str,nv,kv,.int .i64 x.pl],.int .i64 m] w fun e w'=>
   e=.returned (.bool (decide (m<fF x)))∧Below w.heap.size w w'
theorem Hj (x:Nd) (hx:Nw x) (B:Nat) (w:World) (nv kv:Value) (g m:Nat) (hB:B≤w.heap.size) (hN:Hid (lB B w x nv kv)) (hc:bH x≤1000000) (hm:m≤1000) (hm0:m≠0) (hg:w.cell? ⟨g,0,none⟩=some (.int .i64 m)) (hgw:g<w.heap.size) :
  Calls Tryz.prog 59 #[.agg #[.int .i64 x.kind,.int .i64 x.op,.int .i64 x.num,.string x.str,nv,kv,.int .i64 x.pl],.pointer (some ⟨g,0,none⟩)] w fun e w'=>
   e=.returned (.bool (decide (m - 1<fF x)))∧Below w.heap.size w w':=by
 obtain⟨a1,q1,a2,q2,rfl,rfl⟩:=bY hN.out;have hal:=(Below.refl w.heap.size w).alloc (Nat.le_refl _) (.cells #[.int .i64 x.kind,.int .i64 x.op,.int .i64 x.num,.string x.str,.slice a1 x.names.length q1,.slice a2 x.kids.length q2,.int .i64 x.pl] 26);have AL:=aA hal;have N:=aA (iN (hal.mono hB) _ _ _ hN.out);have HX:=aA hx;have EH:=aA (show ((m:Int) - 1)=((m - 1:Nat):Int) by omega);clear hal hN hx;go_enter Tryz.func59,Tryz.ntmps59;go_wp2_with fail;rw [EH.out];refine (HX.out B _ _ _ (m - 1) (by simp;omega) N hc (by omega)).mono ?_;rintro e w1 ⟨rfl,b1⟩;have B1:=aA (aH AL.out (by simp) b1);clear b1 AL N;go_wp2_with fail;go_ret;exact⟨rfl,B1.out⟩
theorem Dl (x:Nd):Nw x:=by
 refine Nd.ind ?_ x;clear x;intro k o n s ns ks p ih B w nv kv m hB hN hc hm;obtain⟨hs,hk⟩:=ndIn_mk.1 hN.out;obtain⟨a1,q1,a2,q2,rfl,rfl⟩:=bY hN.out;simp only [Nd.kind,Nd.op,Nd.num,Nd.str,Nd.pl,Nd.names,Nd.kids] at *
 simp only [bH] at hc;have hlen:=dW ks;have hal:=kE w (.cells #[.int .i64 k,.int .i64 o,.int .i64 n,.string s,.slice a1 ns.length q1,.slice a2 ks.length q2,.int .i64 p] 26) (.cells #[.int .i64 m] 3);by_cases h0:m=0
 ·have e0:((m:Int)==0)=true:=beq_iff_eq.2 (by omega);have H:=aA (show decide (m<fF (.mk k o n s ns ks p))=true by rw [decide_eq_true_iff,h0];exact Jx _);have AL:=aA hal;clear h0 hal hs hk hN;go_enter Tryz.func33,Tryz.ntmps33;go_wp2_with fail;go_ret;exact⟨by rw [H.out];rfl,AL.out⟩
 ·have e0:((m:Int)==0)=false:=beq_eq_false_iff_ne.2 (by omega);have hmf:∀ (fn:Fn) (first cap:Array Value) (w:World),(Instr.makeFunc fn first cap).run Tryz.prog w=.ok (.func fn first cap) w:=fun _ _ _ _=>rfl
  have K:=aA (dV (hal.mono hB) hk);have H:=aA (Ns (k:=k) (o:=o) (n:=n) (s:=s) (ns:=ns) (ks:=ks) (p:=p) h0);have AL:=aA hal;have CL:Hid (Ql (fun x=>decide (m - 1<fF x)) B (.pointer (some ⟨w.heap.size+1,0,none⟩)) ks ((w.alloc (.cells #[.int .i64 k,.int .i64 o,.int .i64 n,.string s,.slice a1 ns.length q1,.slice a2 ks.length q2,.int .i64 p] 26)).alloc (.cells #[.int .i64 m] 3))):=by
   intro x hx w' nv' kv' hb hin;have hcm:=jA hx;have hz:=hb.size;simp only [World.size_alloc] at hz;refine Hj x (ih x hx) B w' nv' kv' (w.heap.size+1) m (by omega) hin (by omega) hm h0 ?_ (by omega);refine cN hb (by simp) ?_;simp
  clear hal hs hk hN h0 ih;go_enter Tryz.func33,Tryz.ntmps33;go_wp2_with fail;refine (ES (fun x=>decide (m - 1<fF x)) B _ _ _ ks (by simp;omega) K (by omega) CL).mono ?_;rintro e w1 ⟨rfl,b1⟩;have B1:=aA (aH AL.out (by simp) b1);clear b1 AL K CL;rw [H.out];go_wp2_with fail;go_ret;exact⟨rfl,B1.out⟩
end Go.Proofs.YtdnnmjhfidimcaaGreatDoor
