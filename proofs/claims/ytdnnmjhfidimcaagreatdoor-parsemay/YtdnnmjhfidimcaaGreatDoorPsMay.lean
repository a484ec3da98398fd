/- What is read may be: right nodes, no more of them than tokens. -/
import Derived.Test.YtdnnmjhfidimcaaGreatDoorPsRight
import Derived.Test.YtdnnmjhfidimcaaGreatDoorJoint2
namespace Go.Proofs.YtdnnmjhfidimcaaGreatDoor
open Go.RowKit
def GT (l:List Tok):Prop:=∀ t∈l,cP t=true
theorem gP {l l':List Tok} (h:GT l) (hs:l' <:+ l):GT l':=fun t ht=>h t (hs.subset ht)
def okR (Q:Nd→Bool→List Tok→Prop) (l0:List Tok) (x:PR):Prop:=match x with | .ok t b l=>Q t b l | .bad l=>l <:+ l0
def okL (Q:List ByteArray→List Nd→List Tok→Prop) (l0:List Tok) (x:PL):Prop:=match x with | .ok ns ts l=>Q ns ts l | .bad l=>l <:+ l0
theorem okR.bind {Q Q':Nd→Bool→List Tok→Prop} {l0:List Tok} {x:PR} {k:Nd→Bool→List Tok→PR} (hx:okR Q l0 x) (hk:∀ t b l,Q t b l→okR Q' l0 (k t b l)):okR Q' l0 (x.bind k):=by
 cases x with
 | ok t b l=>exact hk t b l hx
 | bad l=>exact hx
theorem okR.bindL {Q:Nd→Bool→List Tok→Prop} {Q':List ByteArray→List Nd→List Tok→Prop} {l0:List Tok} {x:PR} {k:Nd→Bool→List Tok→PL} (hx:okR Q l0 x) (hk:∀ t b l,Q t b l→okL Q' l0 (k t b l)):okL Q' l0 (x.bindL k):=by
 cases x with
 | ok t b l=>exact hk t b l hx
 | bad l=>exact hx
theorem okL.bind {Q:List ByteArray→List Nd→List Tok→Prop} {Q':Nd→Bool→List Tok→Prop} {l0:List Tok} {x:PL} {k:List ByteArray→List Nd→List Tok→PR} (hx:okL Q l0 x) (hk:∀ ns ts l,Q ns ts l→okR Q' l0 (k ns ts l)):okR Q' l0 (x.bind k):=by
 cases x with
 | ok ns ts l=>exact hk ns ts l hx
 | bad l=>exact hx
theorem okR.up {Q:Nd→Bool→List Tok→Prop} {Q':Nd→Bool→List Tok→Prop} {l0 l1:List Tok} {x:PR} (hx:okR Q l1 x) (hs:l1 <:+ l0) (hk:∀ t b l,Q t b l→Q' t b l):okR Q' l0 x:=by
 cases x with
 | ok t b l=>exact hk t b l hx
 | bad l=>exact List.IsSuffix.trans hx hs
theorem okL.up {Q:List ByteArray→List Nd→List Tok→Prop} {Q':List ByteArray→List Nd→List Tok→Prop} {l0 l1:List Tok} {x:PL} (hx:okL Q l1 x) (hs:l1 <:+ l0) (hk:∀ t b l,Q t b l→Q' t b l):okL Q' l0 x:=by
 cases x with
 | ok t b l=>exact hk t b l hx
 | bad l=>exact List.IsSuffix.trans hx hs
theorem aX {l:List Tok} {x:List UInt8} (h:bZ l x=true):∃ t r,l=t::r∧gH t x=true:=by
 cases l with
 | nil=>cases h
 | cons t r=>exact⟨t,r,rfl,h⟩
theorem uY {l:List Tok} {k:Bool} (h:qC k l=true):∃ t r,l=t::r∧(t.kind=1∨k=true∧t.kind=2):=by
 cases l with
 | nil=>cases k<;>cases h
 | cons t r=>
  refine⟨t,r,rfl,?_⟩;unfold qC cur at h;simpa using h
theorem okR.must {Q:Nd→Bool→List Tok→Prop} {l0 l:List Tok} {x:List UInt8} {k:List Tok→PR} (hs:l <:+ l0) (hk:∀ t r,l=t::r→gH t x=true→okR Q l0 (k r)):okR Q l0 (must x l k):=by
 unfold Go.Proofs.YtdnnmjhfidimcaaGreatDoor.must;split
 ·rename_i h;obtain⟨t,r,rfl,ht⟩:=aX h;exact hk t r rfl ht
 ·exact hs
theorem okL.must {Q:List ByteArray→List Nd→List Tok→Prop} {l0 l:List Tok} {x:List UInt8} {k:List Tok→PL} (hs:l <:+ l0) (hk:∀ t r,l=t::r→gH t x=true→okL Q l0 (k r)):okL Q l0 (mustL x l k):=by
 unfold mustL;split
 ·rename_i h;obtain⟨t,r,rfl,ht⟩:=aX h;exact hk t r rfl ht
 ·exact hs
theorem okR.word {Q:Nd→Bool→List Tok→Prop} {l0 l:List Tok} {b:Bool} {k:ByteArray→List Tok→PR} (hs:l <:+ l0) (hk:∀ t r,l=t::r→(t.kind=1∨b=true∧t.kind=2)→okR Q l0 (k t.text r)):okR Q l0 (kF b l k):=by
 unfold kF;split
 ·rename_i h;obtain⟨t,r,rfl,ht⟩:=uY h;exact hk t r rfl ht
 ·exact hs
theorem okL.word {Q:List ByteArray→List Nd→List Tok→Prop} {l0 l:List Tok} {b:Bool} {k:ByteArray→List Tok→PL} (hs:l <:+ l0) (hk:∀ t r,l=t::r→(t.kind=1∨b=true∧t.kind=2)→okL Q l0 (k t.text r)):okL Q l0 (wordL b l k):=by
 unfold wordL;split
 ·rename_i h;obtain⟨t,r,rfl,ht⟩:=uY h;exact hk t r rfl ht
 ·exact hs
theorem okR.ite {Q:Nd→Bool→List Tok→Prop} {l0:List Tok} {c:Prop} [Decidable c] {a b:PR} (h1:c→okR Q l0 a) (h2:¬ c→okR Q l0 b):okR Q l0 (if c then a else b):=by
 split
 ·rename_i h;exact h1 h
 ·rename_i h;exact h2 h
theorem okL.ite {Q:List ByteArray→List Nd→List Tok→Prop} {l0:List Tok} {c:Prop} [Decidable c] {a b:PL} (h1:c→okL Q l0 a) (h2:¬ c→okL Q l0 b):okL Q l0 (if c then a else b):=by
 split
 ·rename_i h;exact h1 h
 ·rename_i h;exact h2 h
/-! what tokens are right for -/
theorem LJ:∀ x∈keyL,nameB x=true:=by decide
theorem tA {t:Tok} {b:Bool} (hr:cP t=true) (h:t.kind=1∨b=true∧t.kind=2):dH t.text=true:=by
 unfold cP at hr;rcases h with h | ⟨_,h⟩
 ·rw [h] at hr;simp at hr;exact hr.2.1
 ·rw [h] at hr;simp at hr;exact LJ _ (List.contains_iff_mem.1 hr.2)
theorem rL {t:Tok} (hr:cP t=true) (h:t.kind=1):properB t.text=true:=by
 unfold cP at hr;rw [h] at hr;simp at hr;unfold properB;rw [hr.2.1,hr.2.2];rfl
theorem DI {s:ByteArray} (h:dH s=true):s.data.toList≠[41]:=by
 intro e;unfold dH at h;rw [e] at h;cases h
theorem zF {t:Tok} {x:List UInt8} (h:gH t x=true):t.text.data.toList=x:=by
 unfold gH at h;rw [Bool.and_eq_true,beq_iff_eq] at h;exact h.2
def kA (t:Nd):Prop:=t.kind=5∨t.kind=13∨t.kind=14
def Q1 (l0:List Tok) (t:Nd) (b:Bool) (l:List Tok):Prop:=
 Rt 1 t∧∃ pre u,l0=pre++u::l∧bH t≤pre.length+1∧(kA t→(b=true↔u.text.data.toList≠[41]))∧(b=true→kA t)
def Q2 (a:Nat) (l0:List Tok) (t:Nd) (_b:Bool) (l:List Tok):Prop:=Rt a t∧∃ pre u,l0=pre++u::l∧bH t≤pre.length+1
def Q3 (l0:List Tok) (t:Nd) (_b:Bool) (l:List Tok):Prop:=Rt 2 t∧∃ pre u,l0=pre++u::l∧bH t≤pre.length+2
def QL (a:Nat) (most:Nat) (l0:List Tok) (ts:List Nd) (l:List Tok):Prop:=(∀ x∈ts,Rt a x)∧ts.length≤most∧∃ pre,l0=pre++l∧bU ts≤pre.length
theorem Q1.suf {l0 l:List Tok} {t:Nd} {b:Bool} (h:Q1 l0 t b l):l <:+ l0:=by
 obtain⟨_,pre,u,rfl,_⟩:=h;exact⟨pre++[u],by simp⟩
theorem Q2.suf {a:Nat} {l0 l:List Tok} {t:Nd} {b:Bool} (h:Q2 a l0 t b l):l <:+ l0:=by
 obtain⟨_,pre,u,rfl,_⟩:=h;exact⟨pre++[u],by simp⟩
theorem Q3.suf {l0 l:List Tok} {t:Nd} {b:Bool} (h:Q3 l0 t b l):l <:+ l0:=by
 obtain⟨_,pre,u,rfl,_⟩:=h;exact⟨pre++[u],by simp⟩
theorem QL.suf {a m:Nat} {l0 l:List Tok} {ts:List Nd} (h:QL a m l0 ts l):l <:+ l0:=by
 obtain⟨_,_,pre,rfl,_⟩:=h;exact⟨pre,rfl⟩
theorem fG {t:Tok} {r l0:List Tok} (h:t::r <:+ l0):r <:+ l0:=(List.suffix_cons t r).trans h
theorem Q1.mk {l0 l:List Tok} {t:Nd} (ht:Rt 1 t) (hk:¬ kA t) (pre:List Tok) (u:Tok) (h:l0=pre++u::l) (hc:bH t≤pre.length+1):Q1 l0 t false l:=
 ⟨ht,pre,u,h,hc,fun h=>absurd h hk,fun h=>by cases h⟩
theorem zG (k o n:Int) (s:ByteArray) (ns:List ByteArray) (p:Int):bH (.mk k o n s ns [] p)=1:=by simp [bH,bU]
theorem fT (k o n:Int) (s:ByteArray) (ns:List ByteArray) (ks:List Nd) (p:Int):bH (.mk k o n s ns ks p)=bU ks+1:=by rw [bH]
theorem Ij (l0:List Tok) (hg:GT l0):∀ (f:Nat) (ns:List ByteArray) (l:List Tok),l <:+ l0→(∀ s∈ns,properB s=true)→ns.length+f=6→okL (fun ns' ts l'=>(∀ s∈ns',properB s=true)∧ns'.length≤6∧l' <:+ l0∧ts=[]) l0 (tX f ns l)
 | 0,ns,l,hs,_,_=>hs
 | f+1,ns,l,hs,hn,hf=>by
  rw [tX];refine okL.word hs fun t r e ht=>?_
  subst e;have hp:=rL (hg t (hs.subset (by simp))) (by rcases ht with h | ⟨h,_⟩;exact h;cases h);have hn':∀ s∈ns++[t.text],properB s=true:=by
   intro s hs;rcases List.mem_append.1 hs with h | h
   ·exact hn s h
   ·rw [List.mem_singleton.1 h];exact hp
  refine okL.ite (fun hc=>?_) (fun _=>okL.must (fG hs) fun u q e _=>?_)
  ·obtain⟨u,q,rfl,_⟩:=aX hc.2;exact Ij l0 hg f _ _ (fG (fG hs)) hn' (by simp;omega)
  ·subst e;exact⟨hn',by simp;omega,fG (fG hs),rfl⟩
theorem LK (l0:List Tok) (hg:GT l0) (l:List Tok) (hs:l <:+ l0):okL (fun ns' ts l'=>(∀ s∈ns',properB s=true)∧ns'.length≤6∧l' <:+ l0∧ts=[]) l0 (rC l):=by
 unfold rC;refine okL.ite (fun h=>?_) (fun _=>Ij l0 hg 6 [] l hs (by simp) rfl);obtain⟨u,q,rfl,_⟩:=aX h;exact⟨by simp,by simp,fG hs,rfl⟩
structure NW (f:Nat):Prop where
 rank:∀ r l,GT l→okR (Q1 l) l (aS f r l)
 more:∀ r e b l0 l,GT l0→r≤6→Q1 l0 e b l→okR (Q1 l0) l0 (gI f r e b l)
 post:∀ l,GT l→okR (Q1 l) l (kG f l)
 tail:∀ e b l0 l,GT l0→Q1 l0 e b l→okR (Q1 l0) l0 (fB f e b l)
 args:∀ ks l0 l,GT l0→ks.length≤1→QL 1 7 l0 ks l→okL (fun _ ts l'=>QL 1 7 l0 ts l'∧(ks≠[]→ts.head? = ks.head? )∧∃ pre u,l0=pre++u::l'∧bU ts≤pre.length) l0 (jB f ks l)
 argsM:∀ ks l0 l,GT l0→QL 1 7 l0 ks l→okL (fun _ ts l'=>QL 1 7 l0 ts l'∧(ks≠[]→ts.head? = ks.head?)∧∃ pre u,l0=pre++u::l'∧bU ts≤pre.length) l0 (iB f ks l)
 atom:∀ l,GT l→okR (Q1 l) l (hH f l)
 obj:∀ l0 l,GT l0→QL 1 40 l0 [] l→okL (fun ns ts l'=>QL 1 40 l0 ts l'∧ns.length=ts.length∧(∀ s∈ns,dH s=true)∧∃ pre u,l0=pre++u::l'∧bU ts≤pre.length) l0 (tO f l)
 field:∀ ns ks l0 l,GT l0→QL 1 39 l0 ks l→ns.length=ks.length→(∀ s∈ns,dH s=true)→okL (fun ns ts l'=>QL 1 40 l0 ts l'∧ns.length=ts.length∧(∀ s∈ns,dH s=true)∧∃ pre u,l0=pre++u::l'∧bU ts≤pre.length) l0 (kH f ns ks l)
 objM:∀ ns ks l0 l,GT l0→QL 1 40 l0 ks l→ns.length=ks.length→(∀ s∈ns,dH s=true)→okL (fun ns ts l'=>QL 1 40 l0 ts l'∧ns.length=ts.length∧(∀ s∈ns,dH s=true)∧∃ pre u,l0=pre++u::l'∧bU ts≤pre.length) l0 (lW f ns ks l)
 block:∀ l,GT l→okR (Q2 3 l) l (dY f l)
 stmts:∀ ks l0 l,GT l0→QL 2 40 l0 ks l→okL (fun _ ts l'=>QL 2 40 l0 ts l') l0 (eG f ks l)
 ask:∀ l,GT l→okR (fun t _ l'=>Rt 1 t∧∃ pre u,l=pre++u::l'∧bH t≤pre.length) l (mS f l)
 stmt:∀ l,GT l→okR (Q2 2 l) l (kI f l)
 short:∀ l,GT l→okR (Q3 l) l (iK f l)
theorem Qu:NW 0:=by
 constructor
 ·intro r l _;rw [aS];exact List.suffix_refl _
 ·intro r e b l0 l _ _ h;rw [gI];exact h.suf
 ·intro l _;rw [kG];exact List.suffix_refl _
 ·intro e b l0 l _ h;rw [fB];exact h.suf
 ·intro ks l0 l _ _ h;rw [jB];exact h.suf
 ·intro ks l0 l _ h;rw [iB];exact h.suf
 ·intro l _;rw [hH];exact List.suffix_refl _
 ·intro l0 l _ h;rw [tO];exact h.suf
 ·intro ns ks l0 l _ h _ _;rw [kH];exact h.suf
 ·intro ns ks l0 l _ h _ _;rw [lW];exact h.suf
 ·intro l _;rw [dY];exact List.suffix_refl _
 ·intro ks l0 l _ h;rw [eG];exact h.suf
 ·intro l _;rw [mS];exact List.suffix_refl _
 ·intro l _;rw [kI];exact List.suffix_refl _
 ·intro l _;rw [iK];exact List.suffix_refl _
theorem FK {r:Nat} {l:List Tok} {k o:Int} (h:lP r l=some (k,o)):(∃ t q,l=t::q)∧((k=12∧o=0)∨(k=11∧o=0)∨(k=10∧1≤o∧o≤11)):=by
 have hl:∀ (s:List (List UInt8×Int×Int)),pC s l=some (k,o)→(∃ t q,l=t::q)∧∃ x,(x,k,o)∈s:=by
  intro s;induction s with
  | nil=>intro h;cases h
  | cons a s ih=>
   obtain⟨x,k',o'⟩:=a;intro h;rw [pC] at h;split at h
   ·rename_i hh;obtain⟨t,q,e,_⟩:=aX hh;injection h with h;injection h with h1 h2;subst h1 h2;exact⟨⟨t,q,e⟩,x,by simp⟩
   ·obtain⟨h1,x',h2⟩:=ih h;exact⟨h1,x',by simp [h2]⟩
 obtain⟨h1,x,h2⟩:=hl _ h;refine⟨h1,?_⟩;unfold zD at h2;split at h2<;>simp at h2
 ·omega
 ·omega
 ·rcases h2 with h2 | h2<;>omega
 ·rcases h2 with h2 | h2 | h2 | h2<;>omega
 ·rcases h2 with h2 | h2<;>omega
 ·rcases h2 with h2 | h2 | h2<;>omega
theorem DJ {l:List Tok} {o:Int} (h:nS l=some o):(∃ t q,l=t::q)∧1≤o∧o≤7:=by
 have hl:∀ (s:List Int),oK s l=some o→(∃ t q,l=t::q)∧o∈s:=by
  intro s;induction s with
  | nil=>intro h;cases h
  | cons a s ih=>
   intro h;rw [oK] at h;split at h
   ·rename_i hh;obtain⟨t,q,e,_⟩:=aX hh;injection h with h;subst h;exact⟨⟨t,q,e⟩,by simp⟩
   ·obtain⟨h1,h2⟩:=ih h;exact⟨h1,by simp [h2]⟩
 obtain⟨h1,h2⟩:=hl _ h;refine⟨h1,?_⟩;simp at h2;omega
theorem iC (x:Nd):bU [x]=bH x:=by simp [bU]
theorem nL (x y:Nd):bU [x,y]=bH x+bH y:=by simp [bU]
theorem zH (x y z:Nd):bU [x,y,z]=bH x+(bH y+bH z):=by simp [bU]
theorem wF {l:List Tok} (h:(cur l).kind≠0):∃ t q,l=t::q:=by
 cases l with
 | nil=>exact absurd rfl h
 | cons t q=>exact⟨t,q,rfl⟩
theorem LL {e:Nd} (h:Rt 1 e) (hk:e.kind=13):∃ x p,e=.mk 13 0 0 e.str [] [x] p∧dH e.str=true∧Rt 1 x:=by
 cases h with
 | get s x p hs hx=>exact⟨x,p,rfl,hs,hx⟩
 | _=>simp [Nd.kind] at hk
theorem DK {e:Nd} (h:Rt 1 e) (hk:e.kind=14):∃ x y p,e=.mk 14 0 0 bz [] [x,y] p∧Rt 1 x∧Rt 1 y:=by
 cases h with
 | index x y p hx hy=>exact⟨x,y,p,rfl,hx,hy⟩
 | _=>simp [Nd.kind] at hk
theorem NX {e:Nd} (h:Rt 1 e) (hk:e.kind=5):∃ p,e=.mk 5 0 0 e.str [] [] p∧properB e.str=true:=by
 cases h with
 | name s p hs=>exact⟨p,rfl,hs⟩
 | _=>simp [Nd.kind] at hk
theorem LM {f:Nat} (H:NW f):NW (f+1) where
 rank r l hg:=by
  rw [aS];refine okR.ite (fun _=>okR.ite (fun h=>?_) (fun _=>okR.ite (fun h=>?_) (fun _=>H.post l hg))) (fun h7=>?_)
  ·obtain⟨t,q,rfl,_⟩:=aX h;refine okR.bind ((H.rank 7 q (gP hg (List.suffix_cons t q))).up (List.suffix_cons t q) fun _ _ _ h=>h) fun e b l' hq=>?_
   obtain⟨h1,pre,u,rfl,hc,_,_⟩:=hq;exact Q1.mk (.un 1 e 0 (.inl rfl) h1) (by simp [kA,gK,Nd.kind]) (t::pre) u rfl (by unfold gK;rw [fT,iC];simp;omega)
  ·obtain⟨t,q,rfl,_⟩:=aX h;refine okR.bind ((H.rank 7 q (gP hg (List.suffix_cons t q))).up (List.suffix_cons t q) fun _ _ _ h=>h) fun e b l' hq=>?_
   obtain⟨h1,pre,u,rfl,hc,_,_⟩:=hq;exact Q1.mk (.un 2 e 0 (.inr rfl) h1) (by simp [kA,gK,Nd.kind]) (t::pre) u rfl (by unfold gK;rw [fT,iC];simp;omega)
  ·exact okR.bind (H.rank (r+1) l hg) fun e b l' hq=>H.more r e b l l' hg (by omega) hq
 more r e b l0 l hg hr hq:=by
  rw [gI];cases hs:lP r l with
  | none=>exact hq
  | some p=>
   obtain⟨k,o⟩:=p;obtain⟨⟨t,q,rfl⟩,hk⟩:=FK hs;simp only [List.tail_cons];have hsuf:=fG hq.suf;refine okR.bind ((H.rank (r+1) q (gP hg hsuf)).up hsuf fun _ _ _ h=>h) fun e' b' l' hq'=>?_
   refine H.more r _ _ l0 l' hg hr ?_;obtain⟨h1,pre,u,rfl,hc,_,_⟩:=hq;obtain⟨h1',pre',u',rfl,hc',_,_⟩:=hq';have hcc:bH (gK k o [e,e'])≤(pre++u::t::pre').length+1:=by
    unfold gK;rw [fT,nL];simp;omega
   have hrt:Rt 1 (gK k o [e,e']):=by
    rcases hk with ⟨rfl,rfl⟩ | ⟨rfl,rfl⟩ | ⟨rfl,ho⟩
    ·exact .or e e' 0 h1 h1'
    ·exact .and e e' 0 h1 h1'
    ·exact .bin o e e' 0 ho h1 h1'
   exact Q1.mk hrt (by rcases hk with ⟨rfl,rfl⟩ | ⟨rfl,rfl⟩ | ⟨rfl,ho⟩<;>simp [kA,gK,Nd.kind]) (pre++u::t::pre') u' (by simp) hcc
 post l hg:=by
  rw [kG];exact okR.bind (H.atom l hg) fun e b l' hq=>H.tail e b l l' hg hq
 tail e b l0 l hg hq:=by
  rw [fB];refine okR.ite (fun h=>?_) (fun _=>okR.ite (fun h=>?_) (fun _=>okR.ite (fun h=>?_) (fun _=>hq)))
  ·obtain⟨t,q,rfl,_⟩:=aX h;refine okR.word (fG hq.suf) fun v z ez hv=>?_
   simp only [List.tail_cons] at ez;subst ez;have hvr:=hg v (hq.suf.subset (by simp));have hpv:=tA hvr hv;obtain⟨h1,pre,u,rfl,hc,_,_⟩:=hq;refine okR.ite (fun h40=>?_) (fun _=>?_)
   ·obtain⟨t2,q2,rfl,_⟩:=aX h40;simp only [List.tail_cons];have hQL:QL 1 7 (pre++u::t::v::t2::q2) [e] q2:=⟨by simpa using h1,by simp,pre++[u,t,v,t2],by simp,by rw [iC];simp;omega⟩
    refine okL.bind (H.args [e] _ q2 hg (by simp) hQL) fun _ ts l' ht=>?_
    obtain⟨⟨t1,t7,_⟩,th,pre2,u2,ep,hc2⟩:=ht;have hhd:=th (by simp);cases ts with
    | nil=>cases hhd
    | cons x xs=>
     injection hhd with hhd;subst hhd;refine H.tail _ _ _ l' hg ?_;exact Q1.mk (.meth v.text x xs 0 hpv (by simpa using t7) h1 (fun y hy=>t1 y (by simp [hy]))) (by simp [kA,tN,Nd.kind]) pre2 u2 ep (by unfold tN;rw [fT];omega)
   ·refine H.tail _ _ _ z hg ⟨.get v.text e 0 hpv h1,pre++[u,t],v,by simp,?_,fun _=>?_,fun _=>.inr (.inl rfl)⟩
    ·unfold tN;rw [fT,iC];simp;omega
    ·exact⟨fun _=>DI hpv,fun _=>rfl⟩
  ·obtain⟨t,q,rfl,_⟩:=aX h;simp only [List.tail_cons];have hsuf:=fG hq.suf;refine okR.bind ((H.rank 1 q (gP hg hsuf)).up hsuf fun _ _ _ h=>h) fun i b' l' hq'=>?_
   have hs2:=hq'.suf.trans hsuf;refine okR.must hs2 fun v z ez hv=>?_
   subst ez;obtain⟨h1,pre,u,rfl,hc,_,_⟩:=hq;obtain⟨h1',pre',u',rfl,hc',_,_⟩:=hq';refine H.tail _ _ _ z hg ⟨.index e i 0 h1 h1',pre++u::t::(pre'++[u']),v,by simp,?_,fun _=>?_,fun _=>.inr (.inr rfl)⟩
   ·unfold hJ;rw [fT,nL];simp;omega
   ·exact⟨fun _=>by rw [zF hv];decide,fun _=>rfl⟩
  ·obtain⟨t,q,rfl,_⟩:=aX h;simp only [List.tail_cons];obtain⟨h1,pre,u,rfl,hc,_,_⟩:=hq;have hQL:QL 1 7 (pre++u::t::q) [e] q:=⟨by simpa using h1,by simp,pre++[u,t],by simp,by rw [iC];simp;omega⟩
   refine okL.bind (H.args [e] _ q hg (by simp) hQL) fun _ ts l' ht=>?_
   obtain⟨⟨t1,t7,_⟩,th,pre2,u2,ep,hc2⟩:=ht;have hhd:=th (by simp);cases ts with
   | nil=>cases hhd
   | cons x xs=>
    injection hhd with hhd;subst hhd;refine H.tail _ _ _ l' hg ?_;exact Q1.mk (.call x xs 0 (by simpa using t7) h1 (fun y hy=>t1 y (by simp [hy]))) (by simp [kA,hJ,Nd.kind]) pre2 u2 ep (by unfold hJ;rw [fT];omega)
 args ks l0 l hg h1 hq:=by
  rw [jB];refine okL.ite (fun h=>?_) (fun _=>?_)
  ·obtain⟨t,q,rfl,_⟩:=aX h;obtain⟨a1,a2,pre,rfl,a3⟩:=hq;exact⟨⟨a1,a2,pre++[t],by simp,by simp;omega⟩,fun _=>rfl,pre,t,rfl,a3⟩
  ·refine okR.bindL ((H.rank 1 l (gP hg hq.suf)).up hq.suf fun _ _ _ h=>h) fun e b l' hq'=>?_
   obtain⟨a1,a2,pre,rfl,a3⟩:=hq;obtain⟨b1,pre',u',rfl,b2,_,_⟩:=hq';have hQ:QL 1 7 (pre++(pre'++u'::l')) (ks++[e]) l':=⟨fun x hx=>(List.mem_append.1 hx).elim (a1 x) (fun h=>by rw [List.mem_singleton.1 h];exact b1),by simp;omega,pre++pre'++[u'],by simp,by rw [pB];simp;omega⟩
   refine (H.argsM _ _ l' hg hQ).up (List.suffix_refl _) fun _ ts l'' ht=>⟨ht.1,fun hne=>?_,ht.2.2⟩
   rw [ht.2.1 (by simp)];cases ks with
   | nil=>exact absurd rfl hne
   | cons=>rfl
 argsM ks l0 l hg hq:=by
  rw [iB];refine okL.ite (fun h=>?_) (fun _=>okL.must hq.suf fun t q e _=>?_)
  ·obtain⟨hk7,hh⟩:=h;obtain⟨t,q,rfl,_⟩:=aX hh;simp only [List.tail_cons];have hsuf:=fG hq.suf;refine okR.bindL ((H.rank 1 q (gP hg hsuf)).up hsuf fun _ _ _ h=>h) fun e b l' hq'=>?_
   obtain⟨a1,a2,pre,rfl,a3⟩:=hq;obtain⟨b1,pre',u',rfl,b2,_,_⟩:=hq';have hQ:QL 1 7 (pre++(t::(pre'++u'::l'))) (ks++[e]) l':=⟨fun x hx=>(List.mem_append.1 hx).elim (a1 x) (fun h=>by rw [List.mem_singleton.1 h];exact b1),by simp;omega,pre++t::(pre'++[u']),by simp,by rw [pB];simp;omega⟩
   refine (H.argsM _ _ l' hg hQ).up (List.suffix_refl _) fun _ ts l'' ht=>⟨ht.1,fun hne=>?_,ht.2.2⟩
   rw [ht.2.1 (by simp)];cases ks with
   | nil=>exact absurd rfl hne
   | cons=>rfl
  ·subst e;obtain⟨a1,a2,pre,rfl,a3⟩:=hq;exact⟨⟨a1,a2,pre++[t],by simp,by simp;omega⟩,fun _=>rfl,pre,t,rfl,a3⟩
 atom l hg:=by
  rw [hH];have leaf:∀ {t:Tok} {q:List Tok} {n:Nd},l=t::q→Rt 1 n→¬ kA n→n.kids=[]→okR (Q1 l) l (.ok n false l.tail):=by
   intro t q n e hn hb hk;subst e;obtain⟨k,o,m,s,ns,ks,p⟩:=n;have hk':ks=[]:=hk;subst hk';exact Q1.mk hn hb [] t rfl (by rw [zG];simp)
  refine okR.ite (fun h=>?_) (fun _=>okR.ite (fun h=>?_) (fun _=>okR.ite (fun h=>?_) (fun _=>okR.ite (fun h=>?_) (fun _=>okR.ite (fun h=>?_) (fun _=>okR.ite (fun h=>?_) (fun _=>okR.ite (fun h=>?_)
   (fun _=>okR.ite (fun h=>?_) (fun _=>okR.ite (fun h=>?_) (fun _=>okR.ite (fun h=>?_) (fun _=>?_))))))))))
  ·obtain⟨t,q,rfl⟩:=wF (l:=l) (by omega);have hr:=hg t (by simp);have hk:t.kind=3:=h;unfold cP at hr;rw [if_pos hk] at hr;simp at hr;exact leaf rfl (.int t.num 0 ⟨hr.1,hr.2.1⟩) (by simp [kA,Nd.kind]) rfl
  ·obtain⟨t,q,rfl⟩:=wF (l:=l) (by omega);have hr:=hg t (by simp);have hk:t.kind=4:=h;unfold cP at hr;rw [hk] at hr;simp at hr;exact leaf rfl (.str t.text 0 hr.2) (by simp [kA,tN,Nd.kind]) rfl
  ·obtain⟨t,q,rfl⟩:=wF (l:=l) (by omega);have hr:=hg t (by simp);have hk:t.kind=1:=h;have hp:=rL hr hk;refine⟨.name t.text _ hp,[],t,rfl,by rw [zG];simp,fun _=>⟨fun _=>?_,fun _=>rfl⟩,fun _=>.inl rfl⟩;exact DI (tA (b:=false) hr (.inl hk))
  ·obtain⟨t,q,rfl,_⟩:=aX h;exact leaf rfl (.null 0) (by simp [kA,hJ,Nd.kind]) rfl
  ·obtain⟨t,q,rfl,_⟩:=aX h;exact leaf rfl (.bool 1 0 (.inr rfl)) (by simp [kA,Nd.kind]) rfl
  ·obtain⟨t,q,rfl,_⟩:=aX h;exact leaf rfl (.bool 0 0 (.inl rfl)) (by simp [kA,hJ,Nd.kind]) rfl
  ·obtain⟨t,q,rfl,_⟩:=aX h;exact leaf rfl (.this 0) (by simp [kA,hJ,Nd.kind]) rfl
  ·obtain⟨t,q,rfl,_⟩:=aX h;simp only [List.tail_cons];have hsuf:=List.suffix_cons t q;refine okR.bind ((H.rank 1 q (gP hg hsuf)).up hsuf fun _ _ _ h=>h) fun e b l' hq=>?_
   refine okR.must (hq.suf.trans hsuf) fun v z ez hv=>?_
   subst ez;obtain⟨h1,pre,u,rfl,hc,_,_⟩:=hq;exact⟨h1,t::(pre++[u]),v,by simp,by simp;omega,fun _=>⟨fun h=>(by cases h),fun h=>absurd (zF hv) h⟩,fun h=>(by cases h)⟩
  ·obtain⟨t,q,rfl,_⟩:=aX h;simp only [List.tail_cons];refine okL.bind (H.obj (t::q) q hg ⟨by simp,by simp,[t],rfl,by simp [bU]⟩) fun ns ts l' ht=>?_
   obtain⟨⟨t1,t40,_⟩,hn,hp,pre,u,ep,hc⟩:=ht;exact Q1.mk (.obj ns ts 0 hn.symm (by omega) hp t1) (by simp [kA,Nd.kind]) pre u ep (by rw [fT];omega)
  ·obtain⟨t,q,rfl,_⟩:=aX h;simp only [List.tail_cons];have hsuf:=List.suffix_cons t q;refine okR.must hsuf fun v z ez _=>?_
   subst ez;refine okL.bind (LK _ hg z (fG (fG (List.suffix_refl _)))) fun ns ts l' ht=>?_
   obtain⟨hn,h6,hs',_⟩:=ht;refine okR.bind ((H.block l' (gP hg hs')).up hs' fun _ _ _ h=>h) fun bk _ l'' hb=>?_
   obtain⟨hb1,pre,u,rfl,hc⟩:=hb;obtain⟨pp,epp⟩:=hs';cases hb1 with
   | block ks p hc40 hk=>
    refine Q1.mk (.fn ns ks _ h6 hn hc40 hk) (by simp [kA,Nd.kind]) (pp++pre) u (by rw [← epp];simp) ?_;show bH (.mk 8 0 0 bz ns ks _)≤_;rw [fT] at hc ⊢;simp;omega
  ·cases hb:nS l with
   | none=>exact List.suffix_refl _
   | some o=>
    obtain⟨⟨t,q,rfl⟩,ho⟩:=DJ hb;simp only [List.tail_cons];have hsuf:=List.suffix_cons t q;refine okR.must hsuf fun v z ez _=>?_
    subst ez;have hs2:z <:+ t::v::z:=fG (fG (List.suffix_refl _));refine okR.bind ((H.rank 1 z (gP hg hs2)).up hs2 fun _ _ _ h=>h) fun e b l' hq=>?_
    have hs3:=hq.suf.trans hs2;refine okR.ite (fun h2=>okR.must hs3 fun v2 z2 ez2 _=>?_) (fun h2=>okR.must hs3 fun v2 z2 ez2 _=>?_)
    ·subst ez2;have hs4:=fG hs3;refine okR.bind ((H.rank 1 z2 (gP hg hs4)).up hs4 fun _ _ _ h=>h) fun e' b' l'' hq'=>?_
     refine okR.must (hq'.suf.trans hs4) fun v3 z3 ez3 _=>?_
     subst ez3;obtain⟨h1,pre,u,rfl,hc,_,_⟩:=hq;obtain⟨h1',pre',u',rfl,hc',_,_⟩:=hq';refine Q1.mk (.built o [e,e'] 0 ho (by rw [h2];rfl) (by simp [h1,h1'])) (by simp [kA,gK,Nd.kind]) (t::v::(pre++u::v2::(pre'++[u']))) v3 (by simp) (by unfold gK;rw [fT,nL];simp;omega)
    ·subst ez2;obtain⟨h1,pre,u,rfl,hc,_,_⟩:=hq;have h21:(builtT o).2=1:=by
      obtain rfl | rfl | rfl | rfl | rfl | rfl | rfl:o=1∨o=2∨o=3∨o=4∨o=5∨o=6∨o=7:=by omega
      all_goals first | rfl | exact absurd rfl h2
     refine Q1.mk (.built o [e] 0 ho (by rw [h21];rfl) (by simp [h1])) (by simp [kA,gK,Nd.kind]) (t::v::(pre++[u])) v2 (by simp) (by unfold gK;rw [fT,iC];simp;omega)
 obj l0 l hg hq:=by
  rw [tO];refine okL.ite (fun h=>?_) (fun _=>H.field [] [] l0 l hg ⟨by simp,by simp,hq.2.2⟩ rfl (by simp));obtain⟨t,q,rfl,_⟩:=aX h;obtain⟨_,_,pre,rfl,_⟩:=hq;exact⟨⟨by simp,by simp,pre++[t],by simp,by simp [bU]⟩,rfl,by simp,pre,t,rfl,by simp [bU]⟩
 field ns ks l0 l hg hq hn hp:=by
  rw [kH];refine okL.word hq.suf fun t q e ht=>?_
  subst e;have hpv:=tA (hg t (hq.suf.subset (by simp))) ht;have hs1:=fG hq.suf;refine okL.must hs1 fun v z ez _=>?_
  subst ez;have hs2:=fG hs1;refine okR.bindL ((H.rank 1 z (gP hg hs2)).up hs2 fun _ _ _ h=>h) fun e b l' hq'=>?_
  obtain⟨a1,a2,pre,rfl,a3⟩:=hq;obtain⟨b1,pre',u',rfl,b2,_,_⟩:=hq';refine H.objM _ _ _ l' hg ⟨fun x hx=>(List.mem_append.1 hx).elim (a1 x) (fun h=>by rw [List.mem_singleton.1 h];exact b1),by simp;omega,pre++t::v::(pre'++[u']),by simp,by rw [pB];simp;omega⟩ (by simp [hn]) ?_;intro s hs;rcases List.mem_append.1 hs with h | h
  ·exact hp s h
  ·rw [List.mem_singleton.1 h];exact hpv
 objM ns ks l0 l hg hq hn hp:=by
  rw [lW];refine okL.ite (fun h=>?_) (fun _=>okL.must hq.suf fun t q e _=>?_)
  ·obtain⟨h40,hh⟩:=h;obtain⟨t,q,rfl,_⟩:=aX hh;obtain⟨a1,a2,pre,rfl,a3⟩:=hq;exact H.field ns ks _ q hg ⟨a1,by omega,pre++[t],by simp,by simp;omega⟩ hn hp
  ·subst e;obtain⟨a1,a2,pre,rfl,a3⟩:=hq;exact⟨⟨a1,a2,pre++[t],by simp,by simp;omega⟩,hn,hp,pre,t,rfl,a3⟩
 block l hg:=by
  rw [dY];refine okR.must (List.suffix_refl _) fun t q e _=>?_
  subst e;refine okL.bind (H.stmts [] (t::q) q hg ⟨by simp,by simp,[t],rfl,by simp [bU]⟩) fun _ ts l' hq=>?_
  refine okR.must hq.suf fun v z ez _=>?_
  subst ez;obtain⟨a1,a2,pre,e,a3⟩:=hq;exact⟨.block ts 0 a2 a1,pre,v,e,by unfold hJ;rw [fT];omega⟩
 stmts ks l0 l hg hq:=by
  rw [eG];refine okL.ite (fun h=>?_) (fun _=>hq);refine okR.bindL ((H.stmt l (gP hg hq.suf)).up hq.suf fun _ _ _ h=>h) fun e b l' hq'=>?_
  obtain⟨a1,a2,pre,rfl,a3⟩:=hq;obtain⟨b1,pre',u',rfl,b2⟩:=hq';exact H.stmts _ _ l' hg ⟨fun x hx=>(List.mem_append.1 hx).elim (a1 x) (fun h=>by rw [List.mem_singleton.1 h];exact b1),by simp;omega,pre++pre'++[u'],by simp,by rw [pB];simp;omega⟩
 ask l hg:=by
  rw [mS];refine okR.must (List.suffix_refl _) fun t q e _=>?_
  subst e;have hsuf:=List.suffix_cons t q;refine okR.bind ((H.rank 1 q (gP hg hsuf)).up hsuf fun _ _ _ h=>h) fun e b l' hq=>?_
  refine okR.must (hq.suf.trans hsuf) fun v z ez _=>?_
  subst ez;obtain⟨h1,pre,u,rfl,hc,_,_⟩:=hq;exact⟨h1,t::(pre++[u]),v,by simp,by simp;omega⟩
 stmt l hg:=by
  rw [kI];refine okR.ite (fun h=>?_) (fun _=>okR.ite (fun h=>?_) (fun _=>?_))
  ·obtain⟨t,q,rfl,_⟩:=aX h;simp only [List.tail_cons];have hsuf:=List.suffix_cons t q;refine okR.bind ((H.ask q (gP hg hsuf)).up hsuf fun _ _ _ h=>h) fun e b l' hq=>?_
   obtain⟨e1,pe,ue,rfl,ec⟩:=hq;have hs1:l' <:+ t::(pe++ue::l'):=⟨t::(pe++[ue]),by simp⟩
   refine okR.bind ((H.block l' (gP hg hs1)).up hs1 fun _ _ _ h=>h) fun y b l'' hq2=>?_
   obtain⟨y1,py,uy,rfl,yc⟩:=hq2;refine okR.ite (fun h2=>?_) (fun _=>?_)
   ·obtain⟨t2,q2,rfl,_⟩:=aX h2;simp only [List.tail_cons];have hs2:q2 <:+ t::(pe++ue::(py++uy::t2::q2)):=⟨t::(pe++ue::(py++[uy,t2])),by simp⟩
    refine okR.bind ((H.block q2 (gP hg hs2)).up hs2 fun _ _ _ h=>h) fun z b l3 hq3=>?_
    obtain⟨z1,pz,uz,rfl,zc⟩:=hq3;exact⟨.iff e y z 0 e1 y1 z1,t::(pe++ue::(py++uy::t2::pz)),uz,by simp,by unfold hJ;rw [fT,zH];simp;omega⟩
   ·exact⟨.iff e y (hJ 29 []) 0 e1 y1 (.block [] 0 (by simp) (by simp)),t::(pe++ue::py),uy,by simp,by unfold hJ;rw [fT,zH,zG];simp;omega⟩
  ·obtain⟨t,q,rfl,_⟩:=aX h;simp only [List.tail_cons];have hsuf:=List.suffix_cons t q;refine okR.bind ((H.ask q (gP hg hsuf)).up hsuf fun _ _ _ h=>h) fun e b l' hq=>?_
   obtain⟨e1,pe,ue,rfl,ec⟩:=hq;have hs1:l' <:+ t::(pe++ue::l'):=⟨t::(pe++[ue]),by simp⟩
   refine okR.bind ((H.block l' (gP hg hs1)).up hs1 fun _ _ _ h=>h) fun y b l'' hq2=>?_
   obtain⟨y1,py,uy,rfl,yc⟩:=hq2;exact⟨.whil e y 0 e1 y1,t::(pe++ue::py),uy,by simp,by unfold hJ;rw [fT,nL];simp;omega⟩
  ·refine okR.bind (H.short l hg) fun e b l' hq=>?_
   refine okR.must hq.suf fun v z ez _=>?_
   subst ez;obtain⟨h1,pre,u,rfl,hc⟩:=hq;exact⟨h1,pre++[u],v,by simp,by simp;omega⟩
 short l hg:=by
  rw [iK];refine okR.ite (fun h=>?_) (fun _=>okR.ite (fun h=>?_) (fun _=>okR.ite (fun h=>?_) (fun _=>okR.ite (fun h=>?_) (fun _=>?_))))
  ·obtain⟨t,q,rfl,_⟩:=aX h;simp only [List.tail_cons];refine okR.word (List.suffix_cons t q) fun v z ez hv=>?_
   subst ez;have hp:=rL (hg v (by simp)) (by rcases hv with h | ⟨h,_⟩;exact h;cases h);have hs1:z <:+ t::v::z:=fG (fG (List.suffix_refl _));refine okR.must hs1 fun v2 z2 ez2 _=>?_
   subst ez2;have hs2:=fG hs1;refine okR.bind ((H.rank 1 z2 (gP hg hs2)).up hs2 fun _ _ _ h=>h) fun e b l' hq=>?_
   obtain⟨h1,pre,u,rfl,hc,_,_⟩:=hq;exact⟨.slet v.text e _ hp h1,t::v::v2::pre,u,by simp,by rw [fT,iC];simp;omega⟩
  ·obtain⟨t,q,rfl,_⟩:=aX h;simp only [List.tail_cons];have hsuf:=List.suffix_cons t q;refine okR.bind ((H.rank 1 q (gP hg hsuf)).up hsuf fun _ _ _ h=>h) fun e b l' hq=>?_
   obtain⟨h1,pre,u,rfl,hc,_,_⟩:=hq;exact⟨.print e 0 h1,t::pre,u,by simp,by unfold hJ;rw [fT,iC];simp;omega⟩
  ·obtain⟨t,q,rfl,_⟩:=aX h;simp only [List.tail_cons];have hsuf:=List.suffix_cons t q;refine okR.bind ((H.rank 1 q (gP hg hsuf)).up hsuf fun _ _ _ h=>h) fun e b l' hq=>?_
   obtain⟨h1,pre,u,rfl,hc,_,_⟩:=hq;exact⟨.ret e 0 h1,t::pre,u,by simp,by unfold hJ;rw [fT,iC];simp;omega⟩
  ·obtain⟨t,q,rfl,_⟩:=aX h;simp only [List.tail_cons];have hsuf:=List.suffix_cons t q;refine okR.bind ((H.post q (gP hg hsuf)).up hsuf fun _ _ _ h=>h) fun e b l' hq=>?_
   have hs':=hq.suf.trans hsuf;obtain⟨h1,pre,u,rfl,hc,_,hb⟩:=hq;refine okR.ite (fun hc5=>?_) (fun _=>hs');obtain⟨hbt,h5⟩:=hc5;rcases hb hbt with h | h | h
   ·exact absurd h h5
   ·obtain⟨x,p,ee,hp,hx⟩:=LL h1 h;rw [ee] at hc;rw [fT,iC] at hc;refine⟨?_,t::pre,u,by simp,?_⟩
    ·rw [if_pos h,ee];exact .del _ x 0 hp hx
    ·rw [if_pos h,ee];unfold tN;show bH (.mk 25 0 0 _ [] [x] 0)≤_;rw [fT,iC];simp;omega
   ·obtain⟨x,y,p,ee,hx,hy⟩:=DK h1 h;rw [ee] at hc;rw [fT,nL] at hc;refine⟨?_,t::pre,u,by simp,?_⟩
    ·rw [if_neg (by omega),ee];exact .delix x y 0 hx hy
    ·rw [if_neg (by omega),ee];unfold hJ;show bH (.mk 26 0 0 bz [] [x,y] 0)≤_;rw [fT,nL];simp;omega
  ·refine okR.bind (H.rank 1 l hg) fun e b l' hq=>?_
   refine okR.ite (fun hc5=>?_) (fun _=>?_)
   ·obtain⟨hbt,hh⟩:=hc5;obtain⟨t,q,rfl,_⟩:=aX hh;simp only [List.tail_cons];have hsuf:=fG hq.suf;refine okR.bind ((H.rank 1 q (gP hg hsuf)).up hsuf fun _ _ _ h=>h) fun v b' l'' hq'=>?_
    obtain⟨h1,pre,u,rfl,hc,_,hb⟩:=hq;obtain⟨h1',pre',u',rfl,hc',_,_⟩:=hq';rcases hb hbt with h | h | h
    ·obtain⟨p,ee,hp⟩:=NX h1 h;refine⟨?_,pre++u::t::pre',u',by simp,?_⟩
     ·rw [ee];exact .assign _ v p hp h1'
     ·rw [ee];show bH (.mk 22 0 0 _ [] [v] p)≤_;rw [fT,iC];simp;omega
    ·obtain⟨x,p,ee,hp,hx⟩:=LL h1 h;rw [ee] at hc;rw [fT,iC] at hc;refine⟨?_,pre++u::t::pre',u',by simp,?_⟩
     ·rw [ee];exact .set _ x v 0 hp hx h1'
     ·rw [ee];show bH (.mk 23 0 0 _ [] [x,v] 0)≤_;rw [fT,nL];simp;omega
    ·obtain⟨x,y,p,ee,hx,hy⟩:=DK h1 h;rw [ee] at hc;rw [fT,nL] at hc;refine⟨?_,pre++u::t::pre',u',by simp,?_⟩
     ·rw [ee];exact .setix x y v 0 hx hy h1'
     ·rw [ee];show bH (.mk 24 0 0 bz [] [x,y,v] 0)≤_;rw [fT,zH];simp;omega
   ·obtain⟨h1,pre,u,rfl,hc,_,_⟩:=hq;exact⟨.sexpr e 0 h1,pre,u,rfl,by unfold hJ;rw [fT,iC];simp;omega⟩
theorem yF:∀ f,NW f
 | 0=>Qu
 | f+1=>LM (yF f)
end Go.Proofs.YtdnnmjhfidimcaaGreatDoor
