/- What is read may be: right nodes, no more of them than tokens. -/
import Derived.Test.YtdnnmjhfidimcaaGreatDoorJoint8
import Derived.Test.YtdnnmjhfidimcaaGreatDoorJoint3
namespace Go.Proofs.YtdnnmjhfidimcaaGreatDoor
open Go.RowKit
def GT (l:List Tok):Prop:=∀ t∈l,cS t=true
theorem gY {l l':List Tok} (h:GT l) (hs:l' <:+ l):GT l':=fun t ht=>h t (hs.subset ht)
def okR (Q:Nd→Bool→List Tok→Prop) (l0:List Tok) (x:PR):Prop:=match x with | .ok t b l=>Q t b l | .bad l=>l <:+ l0
def okL (Q:List ByteArray→List Nd→List Tok→Prop) (l0:List Tok) (x:PL):Prop:=match x with | .ok ns ts l=>Q ns ts l | .bad l=>l <:+ l0
theorem okR.bind {Q Q':Nd→Bool→List Tok→Prop} {l0:List Tok} {x:PR} {k:Nd→Bool→List Tok→PR} (hx:okR Q l0 x) (hk:∀ t b l,Q t b l→okR Q' l0 (k t b l)):okR Q' l0 (x.bind k):=by
 cases x with
 | ok t b l=>exact hk t b l hx
 | bad l=>exact hx
theorem okR.bindL {Q:Nd→Bool→List Tok→Prop} {Q':List ByteArray→List Nd→List Tok→Prop} {l0:List Tok} {x:PR} {k:Nd→Bool→List Tok→PL} (hx:okR Q l0 x) (hk:∀ t b l,Q t b l→okL Q' l0 (k t b l)):okL Q' l0 (x.bindL k):=by
 cases x with
 | ok t b l=>exact hk t b l hx
 | bad l=>exact hx
theorem okL.bind {Q:List ByteArray→List Nd→List Tok→Prop} {Q':Nd→Bool→List Tok→Prop} {l0:List Tok} {x:PL} {k:List ByteArray→List Nd→List Tok→PR} (hx:okL Q l0 x) (hk:∀ ns ts l,Q ns ts l→okR Q' l0 (k ns ts l)):okR Q' l0 (x.bind k):=by
 cases x with
 | ok ns ts l=>exact hk ns ts l hx
 | bad l=>exact hx
theorem okR.up {Q:Nd→Bool→List Tok→Prop} {Q':Nd→Bool→List Tok→Prop} {l0 l1:List Tok} {x:PR} (hx:okR Q l1 x) (hs:l1 <:+ l0) (hk:∀ t b l,Q t b l→Q' t b l):okR Q' l0 x:=by
 cases x with
 | ok t b l=>exact hk t b l hx
 | bad l=>exact List.IsSuffix.trans hx hs
theorem okL.up {Q:List ByteArray→List Nd→List Tok→Prop} {Q':List ByteArray→List Nd→List Tok→Prop} {l0 l1:List Tok} {x:PL} (hx:okL Q l1 x) (hs:l1 <:+ l0) (hk:∀ t b l,Q t b l→Q' t b l):okL Q' l0 x:=by
 cases x with
 | ok t b l=>exact hk t b l hx
 | bad l=>exact List.IsSuffix.trans hx hs
theorem aY {l:List Tok} {x:List UInt8} (h:cD l x=true):∃ t r,l=t::r∧gP t x=true:=by
 cases l with
 | nil=>cases h
 | cons t r=>exact⟨t,r,rfl,h⟩
theorem wO {l:List Tok} {k:Bool} (h:rF k l=true):∃ t r,l=t::r∧(t.kind=1∨k=true∧t.kind=2):=by
 cases l with
 | nil=>cases k<;>cases h
 | cons t r=>
  refine⟨t,r,rfl,?_⟩;unfold rF cur at h;simpa using h
theorem okR.must {Q:Nd→Bool→List Tok→Prop} {l0 l:List Tok} {x:List UInt8} {k:List Tok→PR} (hs:l <:+ l0) (hk:∀ t r,l=t::r→gP t x=true→okR Q l0 (k r)):okR Q l0 (must x l k):=by
 unfold Go.Proofs.YtdnnmjhfidimcaaGreatDoor.must;split
 ·rename_i h;obtain⟨t,r,rfl,ht⟩:=aY h;exact hk t r rfl ht
 ·exact hs
theorem okL.must {Q:List ByteArray→List Nd→List Tok→Prop} {l0 l:List Tok} {x:List UInt8} {k:List Tok→PL} (hs:l <:+ l0) (hk:∀ t r,l=t::r→gP t x=true→okL Q l0 (k r)):okL Q l0 (mustL x l k):=by
 unfold mustL;split
 ·rename_i h;obtain⟨t,r,rfl,ht⟩:=aY h;exact hk t r rfl ht
 ·exact hs
theorem okR.word {Q:Nd→Bool→List Tok→Prop} {l0 l:List Tok} {b:Bool} {k:ByteArray→List Tok→PR} (hs:l <:+ l0) (hk:∀ t r,l=t::r→(t.kind=1∨b=true∧t.kind=2)→okR Q l0 (k t.text r)):okR Q l0 (kR b l k):=by
 unfold kR;split
 ·rename_i h;obtain⟨t,r,rfl,ht⟩:=wO h;exact hk t r rfl ht
 ·exact hs
theorem okL.word {Q:List ByteArray→List Nd→List Tok→Prop} {l0 l:List Tok} {b:Bool} {k:ByteArray→List Tok→PL} (hs:l <:+ l0) (hk:∀ t r,l=t::r→(t.kind=1∨b=true∧t.kind=2)→okL Q l0 (k t.text r)):okL Q l0 (wordL b l k):=by
 unfold wordL;split
 ·rename_i h;obtain⟨t,r,rfl,ht⟩:=wO h;exact hk t r rfl ht
 ·exact hs
theorem okR.ite {Q:Nd→Bool→List Tok→Prop} {l0:List Tok} {c:Prop} [Decidable c] {a b:PR} (h1:c→okR Q l0 a) (h2:¬ c→okR Q l0 b):okR Q l0 (if c then a else b):=by
 split
 ·rename_i h;exact h1 h
 ·rename_i h;exact h2 h
theorem okL.ite {Q:List ByteArray→List Nd→List Tok→Prop} {l0:List Tok} {c:Prop} [Decidable c] {a b:PL} (h1:c→okL Q l0 a) (h2:¬ c→okL Q l0 b):okL Q l0 (if c then a else b):=by
 split
 ·rename_i h;exact h1 h
 ·rename_i h;exact h2 h
/-! what tokens are right for -/
theorem Ng:∀ x∈keyL,nameB x=true:=by decide
theorem uH {t:Tok} {b:Bool} (hr:cS t=true) (h:t.kind=1∨b=true∧t.kind=2):dM t.text=true:=by
 unfold cS at hr;rcases h with h | ⟨_,h⟩
 ·rw [h] at hr;simp at hr;exact hr.2.1
 ·rw [h] at hr;simp at hr;exact Ng _ (List.contains_iff_mem.1 hr.2)
theorem sU {t:Tok} (hr:cS t=true) (h:t.kind=1):properB t.text=true:=by
 unfold cS at hr;rw [h] at hr;simp at hr;unfold properB;rw [hr.2.1,hr.2.2];rfl
theorem EM {s:ByteArray} (h:dM s=true):s.data.toList≠[41]:=by
 intro e;unfold dM at h;rw [e] at h;cases h
theorem AN {t:Tok} {x:List UInt8} (h:gP t x=true):t.text.data.toList=x:=by
 unfold gP at h;rw [Bool.and_eq_true,beq_iff_eq] at h;exact h.2
def kM (t:Nd):Prop:=t.kind=5∨t.kind=13∨t.kind=14
def Q1 (l0:List Tok) (t:Nd) (b:Bool) (l:List Tok):Prop:=
 Rt 1 t∧∃ pre u,l0=pre++u::l∧bM t≤pre.length+1∧(kM t→(b=true↔u.text.data.toList≠[41]))∧(b=true→kM t)
def Q2 (a:Nat) (l0:List Tok) (t:Nd) (_b:Bool) (l:List Tok):Prop:=Rt a t∧∃ pre u,l0=pre++u::l∧bM t≤pre.length+1
def Q3 (l0:List Tok) (t:Nd) (_b:Bool) (l:List Tok):Prop:=Rt 2 t∧∃ pre u,l0=pre++u::l∧bM t≤pre.length+2
def QL (a:Nat) (most:Nat) (l0:List Tok) (ts:List Nd) (l:List Tok):Prop:=(∀ x∈ts,Rt a x)∧ts.length≤most∧∃ pre,l0=pre++l∧bW ts≤pre.length
theorem Q1.suf {l0 l:List Tok} {t:Nd} {b:Bool} (h:Q1 l0 t b l):l <:+ l0:=by
 obtain⟨_,pre,u,rfl,_⟩:=h;exact⟨pre++[u],by simp⟩
theorem Q2.suf {a:Nat} {l0 l:List Tok} {t:Nd} {b:Bool} (h:Q2 a l0 t b l):l <:+ l0:=by
 obtain⟨_,pre,u,rfl,_⟩:=h;exact⟨pre++[u],by simp⟩
theorem Q3.suf {l0 l:List Tok} {t:Nd} {b:Bool} (h:Q3 l0 t b l):l <:+ l0:=by
 obtain⟨_,pre,u,rfl,_⟩:=h;exact⟨pre++[u],by simp⟩
theorem QL.suf {a m:Nat} {l0 l:List Tok} {ts:List Nd} (h:QL a m l0 ts l):l <:+ l0:=by
 obtain⟨_,_,pre,rfl,_⟩:=h;exact⟨pre,rfl⟩
theorem fR {t:Tok} {r l0:List Tok} (h:t::r <:+ l0):r <:+ l0:=(List.suffix_cons t r).trans h
theorem Q1.mk {l0 l:List Tok} {t:Nd} (ht:Rt 1 t) (hk:¬ kM t) (pre:List Tok) (u:Tok) (h:l0=pre++u::l) (hc:bM t≤pre.length+1):Q1 l0 t false l:=
 ⟨ht,pre,u,h,hc,fun h=>absurd h hk,fun h=>by cases h⟩
theorem AQ (k o n:Int) (s:ByteArray) (ns:List ByteArray) (p:Int):bM (.mk k o n s ns [] p)=1:=by simp [bM,bW]
theorem gG (k o n:Int) (s:ByteArray) (ns:List ByteArray) (ks:List Nd) (p:Int):bM (.mk k o n s ns ks p)=bW ks+1:=by rw [bM]
theorem JA (l0:List Tok) (hg:GT l0):∀ (f:Nat) (ns:List ByteArray) (l:List Tok),l <:+ l0→(∀ s∈ns,properB s=true)→ns.length+f=6→okL (fun ns' ts l'=>(∀ s∈ns',properB s=true)∧ns'.length≤6∧l' <:+ l0∧ts=[]) l0 (vI f ns l)
 | 0,ns,l,hs,_,_=>hs
 | f+1,ns,l,hs,hn,hf=>by
  rw [vI];refine okL.word hs fun t r e ht=>?_
  subst e;have hp:=sU (hg t (hs.subset (by simp))) (by rcases ht with h | ⟨h,_⟩;exact h;cases h);have hn':∀ s∈ns++[t.text],properB s=true:=by
   intro s hs;rcases List.mem_append.1 hs with h | h
   ·exact hn s h
   ·rw [List.mem_singleton.1 h];exact hp
  refine okL.ite (fun hc=>?_) (fun _=>okL.must (fR hs) fun u q e _=>?_)
  ·obtain⟨u,q,rfl,_⟩:=aY hc.2;exact JA l0 hg f _ _ (fR (fR hs)) hn' (by simp;omega)
  ·subst e;exact⟨hn',by simp;omega,fR (fR hs),rfl⟩
theorem Nh (l0:List Tok) (hg:GT l0) (l:List Tok) (hs:l <:+ l0):okL (fun ns' ts l'=>(∀ s∈ns',properB s=true)∧ns'.length≤6∧l' <:+ l0∧ts=[]) l0 (sG l):=by
 unfold sG;refine okL.ite (fun h=>?_) (fun _=>JA l0 hg 6 [] l hs (by simp) rfl);obtain⟨u,q,rfl,_⟩:=aY h;exact⟨by simp,by simp,fR hs,rfl⟩
structure Pw (f:Nat):Prop where
 rank:∀ r l,GT l→okR (Q1 l) l (aS f r l)
 more:∀ r e b l0 l,GT l0→r≤6→Q1 l0 e b l→okR (Q1 l0) l0 (gQ f r e b l)
 post:∀ l,GT l→okR (Q1 l) l (kS f l)
 tail:∀ e b l0 l,GT l0→Q1 l0 e b l→okR (Q1 l0) l0 (fN f e b l)
 args:∀ ks l0 l,GT l0→ks.length≤1→QL 1 7 l0 ks l→okL (fun _ ts l'=>QL 1 7 l0 ts l'∧(ks≠[]→ts.head? = ks.head? )∧∃ pre u,l0=pre++u::l'∧bW ts≤pre.length) l0 (jO f ks l)
 argsM:∀ ks l0 l,GT l0→QL 1 7 l0 ks l→okL (fun _ ts l'=>QL 1 7 l0 ts l'∧(ks≠[]→ts.head? = ks.head?)∧∃ pre u,l0=pre++u::l'∧bW ts≤pre.length) l0 (iL f ks l)
 atom:∀ l,GT l→okR (Q1 l) l (iG f l)
 obj:∀ l0 l,GT l0→QL 1 40 l0 [] l→okL (fun ns ts l'=>QL 1 40 l0 ts l'∧ns.length=ts.length∧(∀ s∈ns,dM s=true)∧∃ pre u,l0=pre++u::l'∧bW ts≤pre.length) l0 (uV f l)
 field:∀ ns ks l0 l,GT l0→QL 1 39 l0 ks l→ns.length=ks.length→(∀ s∈ns,dM s=true)→okL (fun ns ts l'=>QL 1 40 l0 ts l'∧ns.length=ts.length∧(∀ s∈ns,dM s=true)∧∃ pre u,l0=pre++u::l'∧bW ts≤pre.length) l0 (kT f ns ks l)
 objM:∀ ns ks l0 l,GT l0→QL 1 40 l0 ks l→ns.length=ks.length→(∀ s∈ns,dM s=true)→okL (fun ns ts l'=>QL 1 40 l0 ts l'∧ns.length=ts.length∧(∀ s∈ns,dM s=true)∧∃ pre u,l0=pre++u::l'∧bW ts≤pre.length) l0 (mO f ns ks l)
 block:∀ l,GT l→okR (Q2 3 l) l (eC f l)
 stmts:∀ ks l0 l,GT l0→QL 2 40 l0 ks l→okL (fun _ ts l'=>QL 2 40 l0 ts l') l0 (eK f ks l)
 ask:∀ l,GT l→okR (fun t _ l'=>Rt 1 t∧∃ pre u,l=pre++u::l'∧bM t≤pre.length) l (nL f l)
 stmt:∀ l,GT l→okR (Q2 2 l) l (kU f l)
 short:∀ l,GT l→okR (Q3 l) l (iV f l)
theorem RZ:Pw 0:=by
 constructor
 ·intro r l _;rw [aS];exact List.suffix_refl _
 ·intro r e b l0 l _ _ h;rw [gQ];exact h.suf
 ·intro l _;rw [kS];exact List.suffix_refl _
 ·intro e b l0 l _ h;rw [fN];exact h.suf
 ·intro ks l0 l _ _ h;rw [jO];exact h.suf
 ·intro ks l0 l _ h;rw [iL];exact h.suf
 ·intro l _;rw [iG];exact List.suffix_refl _
 ·intro l0 l _ h;rw [uV];exact h.suf
 ·intro ns ks l0 l _ h _ _;rw [kT];exact h.suf
 ·intro ns ks l0 l _ h _ _;rw [mO];exact h.suf
 ·intro l _;rw [eC];exact List.suffix_refl _
 ·intro ks l0 l _ h;rw [eK];exact h.suf
 ·intro l _;rw [nL];exact List.suffix_refl _
 ·intro l _;rw [kU];exact List.suffix_refl _
 ·intro l _;rw [iV];exact List.suffix_refl _
theorem GR {r:Nat} {l:List Tok} {k o:Int} (h:mF r l=some (k,o)):(∃ t q,l=t::q)∧((k=12∧o=0)∨(k=11∧o=0)∨(k=10∧1≤o∧o≤11)):=by
 have hl:∀ (s:List (List UInt8×Int×Int)),qD s l=some (k,o)→(∃ t q,l=t::q)∧∃ x,(x,k,o)∈s:=by
  intro s;induction s with
  | nil=>intro h;cases h
  | cons a s ih=>
   obtain⟨x,k',o'⟩:=a;intro h;rw [qD] at h;split at h
   ·rename_i hh;obtain⟨t,q,e,_⟩:=aY hh;injection h with h;injection h with h1 h2;subst h1 h2;exact⟨⟨t,q,e⟩,x,by simp⟩
   ·obtain⟨h1,x',h2⟩:=ih h;exact⟨h1,x',by simp [h2]⟩
 obtain⟨h1,x,h2⟩:=hl _ h;refine⟨h1,?_⟩;unfold AK at h2;split at h2<;>simp at h2
 ·omega
 ·omega
 ·rcases h2 with h2 | h2<;>omega
 ·rcases h2 with h2 | h2 | h2 | h2<;>omega
 ·rcases h2 with h2 | h2<;>omega
 ·rcases h2 with h2 | h2 | h2<;>omega
theorem EN {l:List Tok} {o:Int} (h:oL l=some o):(∃ t q,l=t::q)∧1≤o∧o≤7:=by
 have hl:∀ (s:List Int),pI s l=some o→(∃ t q,l=t::q)∧o∈s:=by
  intro s;induction s with
  | nil=>intro h;cases h
  | cons a s ih=>
   intro h;rw [pI] at h;split at h
   ·rename_i hh;obtain⟨t,q,e,_⟩:=aY hh;injection h with h;subst h;exact⟨⟨t,q,e⟩,by simp⟩
   ·obtain⟨h1,h2⟩:=ih h;exact⟨h1,by simp [h2]⟩
 obtain⟨h1,h2⟩:=hl _ h;refine⟨h1,?_⟩;simp at h2;omega
theorem iM (x:Nd):bW [x]=bM x:=by simp [bW]
theorem oG (x y:Nd):bW [x,y]=bM x+bM y:=by simp [bW]
theorem AR (x y z:Nd):bW [x,y,z]=bM x+(bM y+bM z):=by simp [bW]
theorem yC {l:List Tok} (h:(cur l).kind≠0):∃ t q,l=t::q:=by
 cases l with
 | nil=>exact absurd rfl h
 | cons t q=>exact⟨t,q,rfl⟩
theorem Ni {e:Nd} (h:Rt 1 e) (hk:e.kind=13):∃ x p,e=.mk 13 0 0 e.str [] [x] p∧dM e.str=true∧Rt 1 x:=by
 cases h with
 | get s x p hs hx=>exact⟨x,p,rfl,hs,hx⟩
 | _=>simp [Nd.kind] at hk
theorem EO {e:Nd} (h:Rt 1 e) (hk:e.kind=14):∃ x y p,e=.mk 14 0 0 bz [] [x,y] p∧Rt 1 x∧Rt 1 y:=by
 cases h with
 | index x y p hx hy=>exact⟨x,y,p,rfl,hx,hy⟩
 | _=>simp [Nd.kind] at hk
theorem Py {e:Nd} (h:Rt 1 e) (hk:e.kind=5):∃ p,e=.mk 5 0 0 e.str [] [] p∧properB e.str=true:=by
 cases h with
 | name s p hs=>exact⟨p,rfl,hs⟩
 | _=>simp [Nd.kind] at hk
theorem Nj {f:Nat} (H:Pw f):Pw (f+1) where
 rank r l hg:=by
  rw [aS];refine okR.ite (fun _=>okR.ite (fun h=>?_) (fun _=>okR.ite (fun h=>?_) (fun _=>H.post l hg))) (fun h7=>?_)
  ·obtain⟨t,q,rfl,_⟩:=aY h;refine okR.bind ((H.rank 7 q (gY hg (List.suffix_cons t q))).up (List.suffix_cons t q) fun _ _ _ h=>h) fun e b l' hq=>?_
   obtain⟨h1,pre,u,rfl,hc,_,_⟩:=hq;exact Q1.mk (.un 1 e 0 (.inl rfl) h1) (by simp [kM,gS,Nd.kind]) (t::pre) u rfl (by unfold gS;rw [gG,iM];simp;omega)
  ·obtain⟨t,q,rfl,_⟩:=aY h;refine okR.bind ((H.rank 7 q (gY hg (List.suffix_cons t q))).up (List.suffix_cons t q) fun _ _ _ h=>h) fun e b l' hq=>?_
   obtain⟨h1,pre,u,rfl,hc,_,_⟩:=hq;exact Q1.mk (.un 2 e 0 (.inr rfl) h1) (by simp [kM,gS,Nd.kind]) (t::pre) u rfl (by unfold gS;rw [gG,iM];simp;omega)
  ·exact okR.bind (H.rank (r+1) l hg) fun e b l' hq=>H.more r e b l l' hg (by omega) hq
 more r e b l0 l hg hr hq:=by
  rw [gQ];cases hs:mF r l with
  | none=>exact hq
  | some p=>
   obtain⟨k,o⟩:=p;obtain⟨⟨t,q,rfl⟩,hk⟩:=GR hs;simp only [List.tail_cons];have hsuf:=fR hq.suf;refine okR.bind ((H.rank (r+1) q (gY hg hsuf)).up hsuf fun _ _ _ h=>h) fun e' b' l' hq'=>?_
   refine H.more r _ _ l0 l' hg hr ?_;obtain⟨h1,pre,u,rfl,hc,_,_⟩:=hq;obtain⟨h1',pre',u',rfl,hc',_,_⟩:=hq';have hcc:bM (gS k o [e,e'])≤(pre++u::t::pre').length+1:=by
    unfold gS;rw [gG,oG];simp;omega
   have hrt:Rt 1 (gS k o [e,e']):=by
    rcases hk with ⟨rfl,rfl⟩ | ⟨rfl,rfl⟩ | ⟨rfl,ho⟩
    ·exact .or e e' 0 h1 h1'
    ·exact .and e e' 0 h1 h1'
    ·exact .bin o e e' 0 ho h1 h1'
   exact Q1.mk hrt (by rcases hk with ⟨rfl,rfl⟩ | ⟨rfl,rfl⟩ | ⟨rfl,ho⟩<;>simp [kM,gS,Nd.kind]) (pre++u::t::pre') u' (by simp) hcc
 post l hg:=by
  rw [kS];exact okR.bind (H.atom l hg) fun e b l' hq=>H.tail e b l l' hg hq
 tail e b l0 l hg hq:=by
  rw [fN];refine okR.ite (fun h=>?_) (fun _=>okR.ite (fun h=>?_) (fun _=>okR.ite (fun h=>?_) (fun _=>hq)))
  ·obtain⟨t,q,rfl,_⟩:=aY h;refine okR.word (fR hq.suf) fun v z ez hv=>?_
   simp only [List.tail_cons] at ez;subst ez;have hvr:=hg v (hq.suf.subset (by simp));have hpv:=uH hvr hv;obtain⟨h1,pre,u,rfl,hc,_,_⟩:=hq;refine okR.ite (fun h40=>?_) (fun _=>?_)
   ·obtain⟨t2,q2,rfl,_⟩:=aY h40;simp only [List.tail_cons];have hQL:QL 1 7 (pre++u::t::v::t2::q2) [e] q2:=⟨by simpa using h1,by simp,pre++[u,t,v,t2],by simp,by rw [iM];simp;omega⟩
    refine okL.bind (H.args [e] _ q2 hg (by simp) hQL) fun _ ts l' ht=>?_
    obtain⟨⟨t1,t7,_⟩,th,pre2,u2,ep,hc2⟩:=ht;have hhd:=th (by simp);cases ts with
    | nil=>cases hhd
    | cons x xs=>
     injection hhd with hhd;subst hhd;refine H.tail _ _ _ l' hg ?_;exact Q1.mk (.meth v.text x xs 0 hpv (by simpa using t7) h1 (fun y hy=>t1 y (by simp [hy]))) (by simp [kM,uU,Nd.kind]) pre2 u2 ep (by unfold uU;rw [gG];omega)
   ·refine H.tail _ _ _ z hg ⟨.get v.text e 0 hpv h1,pre++[u,t],v,by simp,?_,fun _=>?_,fun _=>.inr (.inl rfl)⟩
    ·unfold uU;rw [gG,iM];simp;omega
    ·exact⟨fun _=>EM hpv,fun _=>rfl⟩
  ·obtain⟨t,q,rfl,_⟩:=aY h;simp only [List.tail_cons];have hsuf:=fR hq.suf;refine okR.bind ((H.rank 1 q (gY hg hsuf)).up hsuf fun _ _ _ h=>h) fun i b' l' hq'=>?_
   have hs2:=hq'.suf.trans hsuf;refine okR.must hs2 fun v z ez hv=>?_
   subst ez;obtain⟨h1,pre,u,rfl,hc,_,_⟩:=hq;obtain⟨h1',pre',u',rfl,hc',_,_⟩:=hq';refine H.tail _ _ _ z hg ⟨.index e i 0 h1 h1',pre++u::t::(pre'++[u']),v,by simp,?_,fun _=>?_,fun _=>.inr (.inr rfl)⟩
   ·unfold iH;rw [gG,oG];simp;omega
   ·exact⟨fun _=>by rw [AN hv];decide,fun _=>rfl⟩
  ·obtain⟨t,q,rfl,_⟩:=aY h;simp only [List.tail_cons];obtain⟨h1,pre,u,rfl,hc,_,_⟩:=hq;have hQL:QL 1 7 (pre++u::t::q) [e] q:=⟨by simpa using h1,by simp,pre++[u,t],by simp,by rw [iM];simp;omega⟩
   refine okL.bind (H.args [e] _ q hg (by simp) hQL) fun _ ts l' ht=>?_
   obtain⟨⟨t1,t7,_⟩,th,pre2,u2,ep,hc2⟩:=ht;have hhd:=th (by simp);cases ts with
   | nil=>cases hhd
   | cons x xs=>
    injection hhd with hhd;subst hhd;refine H.tail _ _ _ l' hg ?_;exact Q1.mk (.call x xs 0 (by simpa using t7) h1 (fun y hy=>t1 y (by simp [hy]))) (by simp [kM,iH,Nd.kind]) pre2 u2 ep (by unfold iH;rw [gG];omega)
 args ks l0 l hg h1 hq:=by
  rw [jO];refine okL.ite (fun h=>?_) (fun _=>?_)
  ·obtain⟨t,q,rfl,_⟩:=aY h;obtain⟨a1,a2,pre,rfl,a3⟩:=hq;exact⟨⟨a1,a2,pre++[t],by simp,by simp;omega⟩,fun _=>rfl,pre,t,rfl,a3⟩
  ·refine okR.bindL ((H.rank 1 l (gY hg hq.suf)).up hq.suf fun _ _ _ h=>h) fun e b l' hq'=>?_
   obtain⟨a1,a2,pre,rfl,a3⟩:=hq;obtain⟨b1,pre',u',rfl,b2,_,_⟩:=hq';have hQ:QL 1 7 (pre++(pre'++u'::l')) (ks++[e]) l':=⟨fun x hx=>(List.mem_append.1 hx).elim (a1 x) (fun h=>by rw [List.mem_singleton.1 h];exact b1),by simp;omega,pre++pre'++[u'],by simp,by rw [qC];simp;omega⟩
   refine (H.argsM _ _ l' hg hQ).up (List.suffix_refl _) fun _ ts l'' ht=>⟨ht.1,fun hne=>?_,ht.2.2⟩
   rw [ht.2.1 (by simp)];cases ks with
   | nil=>exact absurd rfl hne
   | cons=>rfl
 argsM ks l0 l hg hq:=by
  rw [iL];refine okL.ite (fun h=>?_) (fun _=>okL.must hq.suf fun t q e _=>?_)
  ·obtain⟨hk7,hh⟩:=h;obtain⟨t,q,rfl,_⟩:=aY hh;simp only [List.tail_cons];have hsuf:=fR hq.suf;refine okR.bindL ((H.rank 1 q (gY hg hsuf)).up hsuf fun _ _ _ h=>h) fun e b l' hq'=>?_
   obtain⟨a1,a2,pre,rfl,a3⟩:=hq;obtain⟨b1,pre',u',rfl,b2,_,_⟩:=hq';have hQ:QL 1 7 (pre++(t::(pre'++u'::l'))) (ks++[e]) l':=⟨fun x hx=>(List.mem_append.1 hx).elim (a1 x) (fun h=>by rw [List.mem_singleton.1 h];exact b1),by simp;omega,pre++t::(pre'++[u']),by simp,by rw [qC];simp;omega⟩
   refine (H.argsM _ _ l' hg hQ).up (List.suffix_refl _) fun _ ts l'' ht=>⟨ht.1,fun hne=>?_,ht.2.2⟩
   rw [ht.2.1 (by simp)];cases ks with
   | nil=>exact absurd rfl hne
   | cons=>rfl
  ·subst e;obtain⟨a1,a2,pre,rfl,a3⟩:=hq;exact⟨⟨a1,a2,pre++[t],by simp,by simp;omega⟩,fun _=>rfl,pre,t,rfl,a3⟩
 atom l hg:=by
  rw [iG];have leaf:∀ {t:Tok} {q:List Tok} {n:Nd},l=t::q→Rt 1 n→¬ kM n→n.kids=[]→okR (Q1 l) l (.ok n false l.tail):=by
   intro t q n e hn hb hk;subst e;obtain⟨k,o,m,s,ns,ks,p⟩:=n;have hk':ks=[]:=hk;subst hk';exact Q1.mk hn hb [] t rfl (by rw [AQ];simp)
  refine okR.ite (fun h=>?_) (fun _=>okR.ite (fun h=>?_) (fun _=>okR.ite (fun h=>?_) (fun _=>okR.ite (fun h=>?_) (fun _=>okR.ite (fun h=>?_) (fun _=>okR.ite (fun h=>?_) (fun _=>okR.ite (fun h=>?_)
   (fun _=>okR.ite (fun h=>?_) (fun _=>okR.ite (fun h=>?_) (fun _=>okR.ite (fun h=>?_) (fun _=>?_))))))))))
  ·obtain⟨t,q,rfl⟩:=yC (l:=l) (by omega);have hr:=hg t (by simp);have hk:t.kind=3:=h;unfold cS at hr;rw [if_pos hk] at hr;simp at hr;exact leaf rfl (.int t.num 0 ⟨hr.1,hr.2.1⟩) (by simp [kM,Nd.kind]) rfl
  ·obtain⟨t,q,rfl⟩:=yC (l:=l) (by omega);have hr:=hg t (by simp);have hk:t.kind=4:=h;unfold cS at hr;rw [hk] at hr;simp at hr;exact leaf rfl (.str t.text 0 hr.2) (by simp [kM,uU,Nd.kind]) rfl
  ·obtain⟨t,q,rfl⟩:=yC (l:=l) (by omega);have hr:=hg t (by simp);have hk:t.kind=1:=h;have hp:=sU hr hk;refine⟨.name t.text _ hp,[],t,rfl,by rw [AQ];simp,fun _=>⟨fun _=>?_,fun _=>rfl⟩,fun _=>.inl rfl⟩;exact EM (uH (b:=false) hr (.inl hk))
  ·obtain⟨t,q,rfl,_⟩:=aY h;exact leaf rfl (.null 0) (by simp [kM,iH,Nd.kind]) rfl
  ·obtain⟨t,q,rfl,_⟩:=aY h;exact leaf rfl (.bool 1 0 (.inr rfl)) (by simp [kM,Nd.kind]) rfl
  ·obtain⟨t,q,rfl,_⟩:=aY h;exact leaf rfl (.bool 0 0 (.inl rfl)) (by simp [kM,iH,Nd.kind]) rfl
  ·obtain⟨t,q,rfl,_⟩:=aY h;exact leaf rfl (.this 0) (by simp [kM,iH,Nd.kind]) rfl
  ·obtain⟨t,q,rfl,_⟩:=aY h;simp only [List.tail_cons];have hsuf:=List.suffix_cons t q;refine okR.bind ((H.rank 1 q (gY hg hsuf)).up hsuf fun _ _ _ h=>h) fun e b l' hq=>?_
   refine okR.must (hq.suf.trans hsuf) fun v z ez hv=>?_
   subst ez;obtain⟨h1,pre,u,rfl,hc,_,_⟩:=hq;exact⟨h1,t::(pre++[u]),v,by simp,by simp;omega,fun _=>⟨fun h=>(by cases h),fun h=>absurd (AN hv) h⟩,fun h=>(by cases h)⟩
  ·obtain⟨t,q,rfl,_⟩:=aY h;simp only [List.tail_cons];refine okL.bind (H.obj (t::q) q hg ⟨by simp,by simp,[t],rfl,by simp [bW]⟩) fun ns ts l' ht=>?_
   obtain⟨⟨t1,t40,_⟩,hn,hp,pre,u,ep,hc⟩:=ht;exact Q1.mk (.obj ns ts 0 hn.symm (by omega) hp t1) (by simp [kM,Nd.kind]) pre u ep (by rw [gG];omega)
  ·obtain⟨t,q,rfl,_⟩:=aY h;simp only [List.tail_cons];have hsuf:=List.suffix_cons t q;refine okR.must hsuf fun v z ez _=>?_
   subst ez;refine okL.bind (Nh _ hg z (fR (fR (List.suffix_refl _)))) fun ns ts l' ht=>?_
   obtain⟨hn,h6,hs',_⟩:=ht;refine okR.bind ((H.block l' (gY hg hs')).up hs' fun _ _ _ h=>h) fun bk _ l'' hb=>?_
   obtain⟨hb1,pre,u,rfl,hc⟩:=hb;obtain⟨pp,epp⟩:=hs';cases hb1 with
   | block ks p hc40 hk=>
    refine Q1.mk (.fn ns ks _ h6 hn hc40 hk) (by simp [kM,Nd.kind]) (pp++pre) u (by rw [← epp];simp) ?_;show bM (.mk 8 0 0 bz ns ks _)≤_;rw [gG] at hc ⊢;simp;omega
  ·cases hb:oL l with
   | none=>exact List.suffix_refl _
   | some o=>
    obtain⟨⟨t,q,rfl⟩,ho⟩:=EN hb;simp only [List.tail_cons];have hsuf:=List.suffix_cons t q;refine okR.must hsuf fun v z ez _=>?_
    subst ez;have hs2:z <:+ t::v::z:=fR (fR (List.suffix_refl _));refine okR.bind ((H.rank 1 z (gY hg hs2)).up hs2 fun _ _ _ h=>h) fun e b l' hq=>?_
    have hs3:=hq.suf.trans hs2;refine okR.ite (fun h2=>okR.must hs3 fun v2 z2 ez2 _=>?_) (fun h2=>okR.must hs3 fun v2 z2 ez2 _=>?_)
    ·subst ez2;have hs4:=fR hs3;refine okR.bind ((H.rank 1 z2 (gY hg hs4)).up hs4 fun _ _ _ h=>h) fun e' b' l'' hq'=>?_
     refine okR.must (hq'.suf.trans hs4) fun v3 z3 ez3 _=>?_
     subst ez3;obtain⟨h1,pre,u,rfl,hc,_,_⟩:=hq;obtain⟨h1',pre',u',rfl,hc',_,_⟩:=hq';refine Q1.mk (.built o [e,e'] 0 ho (by rw [h2];rfl) (by simp [h1,h1'])) (by simp [kM,gS,Nd.kind]) (t::v::(pre++u::v2::(pre'++[u']))) v3 (by simp) (by unfold gS;rw [gG,oG];simp;omega)
    ·subst ez2;obtain⟨h1,pre,u,rfl,hc,_,_⟩:=hq;have h21:(builtT o).2=1:=by
      obtain rfl | rfl | rfl | rfl | rfl | rfl | rfl:o=1∨o=2∨o=3∨o=4∨o=5∨o=6∨o=7:=by omega
      all_goals first | rfl | exact absurd rfl h2
     refine Q1.mk (.built o [e] 0 ho (by rw [h21];rfl) (by simp [h1])) (by simp [kM,gS,Nd.kind]) (t::v::(pre++[u])) v2 (by simp) (by unfold gS;rw [gG,iM];simp;omega)
 obj l0 l hg hq:=by
  rw [uV];refine okL.ite (fun h=>?_) (fun _=>H.field [] [] l0 l hg ⟨by simp,by simp,hq.2.2⟩ rfl (by simp));obtain⟨t,q,rfl,_⟩:=aY h;obtain⟨_,_,pre,rfl,_⟩:=hq;exact⟨⟨by simp,by simp,pre++[t],by simp,by simp [bW]⟩,rfl,by simp,pre,t,rfl,by simp [bW]⟩
 field ns ks l0 l hg hq hn hp:=by
  rw [kT];refine okL.word hq.suf fun t q e ht=>?_
  subst e;have hpv:=uH (hg t (hq.suf.subset (by simp))) ht;have hs1:=fR hq.suf;refine okL.must hs1 fun v z ez _=>?_
  subst ez;have hs2:=fR hs1;refine okR.bindL ((H.rank 1 z (gY hg hs2)).up hs2 fun _ _ _ h=>h) fun e b l' hq'=>?_
  obtain⟨a1,a2,pre,rfl,a3⟩:=hq;obtain⟨b1,pre',u',rfl,b2,_,_⟩:=hq';refine H.objM _ _ _ l' hg ⟨fun x hx=>(List.mem_append.1 hx).elim (a1 x) (fun h=>by rw [List.mem_singleton.1 h];exact b1),by simp;omega,pre++t::v::(pre'++[u']),by simp,by rw [qC];simp;omega⟩ (by simp [hn]) ?_;intro s hs;rcases List.mem_append.1 hs with h | h
  ·exact hp s h
  ·rw [List.mem_singleton.1 h];exact hpv
 objM ns ks l0 l hg hq hn hp:=by
  rw [mO];refine okL.ite (fun h=>?_) (fun _=>okL.must hq.suf fun t q e _=>?_)
  ·obtain⟨h40,hh⟩:=h;obtain⟨t,q,rfl,_⟩:=aY hh;obtain⟨a1,a2,pre,rfl,a3⟩:=hq;exact H.field ns ks _ q hg ⟨a1,by omega,pre++[t],by simp,by simp;omega⟩ hn hp
  ·subst e;obtain⟨a1,a2,pre,rfl,a3⟩:=hq;exact⟨⟨a1,a2,pre++[t],by simp,by simp;omega⟩,hn,hp,pre,t,rfl,a3⟩
 block l hg:=by
  rw [eC];refine okR.must (List.suffix_refl _) fun t q e _=>?_
  subst e;refine okL.bind (H.stmts [] (t::q) q hg ⟨by simp,by simp,[t],rfl,by simp [bW]⟩) fun _ ts l' hq=>?_
  refine okR.must hq.suf fun v z ez _=>?_
  subst ez;obtain⟨a1,a2,pre,e,a3⟩:=hq;exact⟨.block ts 0 a2 a1,pre,v,e,by unfold iH;rw [gG];omega⟩
 stmts ks l0 l hg hq:=by
  rw [eK];refine okL.ite (fun h=>?_) (fun _=>hq);refine okR.bindL ((H.stmt l (gY hg hq.suf)).up hq.suf fun _ _ _ h=>h) fun e b l' hq'=>?_
  obtain⟨a1,a2,pre,rfl,a3⟩:=hq;obtain⟨b1,pre',u',rfl,b2⟩:=hq';exact H.stmts _ _ l' hg ⟨fun x hx=>(List.mem_append.1 hx).elim (a1 x) (fun h=>by rw [List.mem_singleton.1 h];exact b1),by simp;omega,pre++pre'++[u'],by simp,by rw [qC];simp;omega⟩
 ask l hg:=by
  rw [nL];refine okR.must (List.suffix_refl _) fun t q e _=>?_
  subst e;have hsuf:=List.suffix_cons t q;refine okR.bind ((H.rank 1 q (gY hg hsuf)).up hsuf fun _ _ _ h=>h) fun e b l' hq=>?_
  refine okR.must (hq.suf.trans hsuf) fun v z ez _=>?_
  subst ez;obtain⟨h1,pre,u,rfl,hc,_,_⟩:=hq;exact⟨h1,t::(pre++[u]),v,by simp,by simp;omega⟩
 stmt l hg:=by
  rw [kU];refine okR.ite (fun h=>?_) (fun _=>okR.ite (fun h=>?_) (fun _=>?_))
  ·obtain⟨t,q,rfl,_⟩:=aY h;simp only [List.tail_cons];have hsuf:=List.suffix_cons t q;refine okR.bind ((H.ask q (gY hg hsuf)).up hsuf fun _ _ _ h=>h) fun e b l' hq=>?_
   obtain⟨e1,pe,ue,rfl,ec⟩:=hq;have hs1:l' <:+ t::(pe++ue::l'):=⟨t::(pe++[ue]),by simp⟩
   refine okR.bind ((H.block l' (gY hg hs1)).up hs1 fun _ _ _ h=>h) fun y b l'' hq2=>?_
   obtain⟨y1,py,uy,rfl,yc⟩:=hq2;refine okR.ite (fun h2=>?_) (fun _=>?_)
   ·obtain⟨t2,q2,rfl,_⟩:=aY h2;simp only [List.tail_cons];have hs2:q2 <:+ t::(pe++ue::(py++uy::t2::q2)):=⟨t::(pe++ue::(py++[uy,t2])),by simp⟩
    refine okR.bind ((H.block q2 (gY hg hs2)).up hs2 fun _ _ _ h=>h) fun z b l3 hq3=>?_
    obtain⟨z1,pz,uz,rfl,zc⟩:=hq3;exact⟨.iff e y z 0 e1 y1 z1,t::(pe++ue::(py++uy::t2::pz)),uz,by simp,by unfold iH;rw [gG,AR];simp;omega⟩
   ·exact⟨.iff e y (iH 29 []) 0 e1 y1 (.block [] 0 (by simp) (by simp)),t::(pe++ue::py),uy,by simp,by unfold iH;rw [gG,AR,AQ];simp;omega⟩
  ·obtain⟨t,q,rfl,_⟩:=aY h;simp only [List.tail_cons];have hsuf:=List.suffix_cons t q;refine okR.bind ((H.ask q (gY hg hsuf)).up hsuf fun _ _ _ h=>h) fun e b l' hq=>?_
   obtain⟨e1,pe,ue,rfl,ec⟩:=hq;have hs1:l' <:+ t::(pe++ue::l'):=⟨t::(pe++[ue]),by simp⟩
   refine okR.bind ((H.block l' (gY hg hs1)).up hs1 fun _ _ _ h=>h) fun y b l'' hq2=>?_
   obtain⟨y1,py,uy,rfl,yc⟩:=hq2;exact⟨.whil e y 0 e1 y1,t::(pe++ue::py),uy,by simp,by unfold iH;rw [gG,oG];simp;omega⟩
  ·refine okR.bind (H.short l hg) fun e b l' hq=>?_
   refine okR.must hq.suf fun v z ez _=>?_
   subst ez;obtain⟨h1,pre,u,rfl,hc⟩:=hq;exact⟨h1,pre++[u],v,by simp,by simp;omega⟩
 short l hg:=by
  rw [iV];refine okR.ite (fun h=>?_) (fun _=>okR.ite (fun h=>?_) (fun _=>okR.ite (fun h=>?_) (fun _=>okR.ite (fun h=>?_) (fun _=>?_))))
  ·obtain⟨t,q,rfl,_⟩:=aY h;simp only [List.tail_cons];refine okR.word (List.suffix_cons t q) fun v z ez hv=>?_
   subst ez;have hp:=sU (hg v (by simp)) (by rcases hv with h | ⟨h,_⟩;exact h;cases h);have hs1:z <:+ t::v::z:=fR (fR (List.suffix_refl _));refine okR.must hs1 fun v2 z2 ez2 _=>?_
   subst ez2;have hs2:=fR hs1;refine okR.bind ((H.rank 1 z2 (gY hg hs2)).up hs2 fun _ _ _ h=>h) fun e b l' hq=>?_
   obtain⟨h1,pre,u,rfl,hc,_,_⟩:=hq;exact⟨.slet v.text e _ hp h1,t::v::v2::pre,u,by simp,by rw [gG,iM];simp;omega⟩
  ·obtain⟨t,q,rfl,_⟩:=aY h;simp only [List.tail_cons];have hsuf:=List.suffix_cons t q;refine okR.bind ((H.rank 1 q (gY hg hsuf)).up hsuf fun _ _ _ h=>h) fun e b l' hq=>?_
   obtain⟨h1,pre,u,rfl,hc,_,_⟩:=hq;exact⟨.print e 0 h1,t::pre,u,by simp,by unfold iH;rw [gG,iM];simp;omega⟩
  ·obtain⟨t,q,rfl,_⟩:=aY h;simp only [List.tail_cons];have hsuf:=List.suffix_cons t q;refine okR.bind ((H.rank 1 q (gY hg hsuf)).up hsuf fun _ _ _ h=>h) fun e b l' hq=>?_
   obtain⟨h1,pre,u,rfl,hc,_,_⟩:=hq;exact⟨.ret e 0 h1,t::pre,u,by simp,by unfold iH;rw [gG,iM];simp;omega⟩
  ·obtain⟨t,q,rfl,_⟩:=aY h;simp only [List.tail_cons];have hsuf:=List.suffix_cons t q;refine okR.bind ((H.post q (gY hg hsuf)).up hsuf fun _ _ _ h=>h) fun e b l' hq=>?_
   have hs':=hq.suf.trans hsuf;obtain⟨h1,pre,u,rfl,hc,_,hb⟩:=hq;refine okR.ite (fun hc5=>?_) (fun _=>hs');obtain⟨hbt,h5⟩:=hc5;rcases hb hbt with h | h | h
   ·exact absurd h h5
   ·obtain⟨x,p,ee,hp,hx⟩:=Ni h1 h;rw [ee] at hc;rw [gG,iM] at hc;refine⟨?_,t::pre,u,by simp,?_⟩
    ·rw [if_pos h,ee];exact .del _ x 0 hp hx
    ·rw [if_pos h,ee];unfold uU;show bM (.mk 25 0 0 _ [] [x] 0)≤_;rw [gG,iM];simp;omega
   ·obtain⟨x,y,p,ee,hx,hy⟩:=EO h1 h;rw [ee] at hc;rw [gG,oG] at hc;refine⟨?_,t::pre,u,by simp,?_⟩
    ·rw [if_neg (by omega),ee];exact .delix x y 0 hx hy
    ·rw [if_neg (by omega),ee];unfold iH;show bM (.mk 26 0 0 bz [] [x,y] 0)≤_;rw [gG,oG];simp;omega
  ·refine okR.bind (H.rank 1 l hg) fun e b l' hq=>?_
   refine okR.ite (fun hc5=>?_) (fun _=>?_)
   ·obtain⟨hbt,hh⟩:=hc5;obtain⟨t,q,rfl,_⟩:=aY hh;simp only [List.tail_cons];have hsuf:=fR hq.suf;refine okR.bind ((H.rank 1 q (gY hg hsuf)).up hsuf fun _ _ _ h=>h) fun v b' l'' hq'=>?_
    obtain⟨h1,pre,u,rfl,hc,_,hb⟩:=hq;obtain⟨h1',pre',u',rfl,hc',_,_⟩:=hq';rcases hb hbt with h | h | h
    ·obtain⟨p,ee,hp⟩:=Py h1 h;refine⟨?_,pre++u::t::pre',u',by simp,?_⟩
     ·rw [ee];exact .assign _ v p hp h1'
     ·rw [ee];show bM (.mk 22 0 0 _ [] [v] p)≤_;rw [gG,iM];simp;omega
    ·obtain⟨x,p,ee,hp,hx⟩:=Ni h1 h;rw [ee] at hc;rw [gG,iM] at hc;refine⟨?_,pre++u::t::pre',u',by simp,?_⟩
     ·rw [ee];exact .set _ x v 0 hp hx h1'
     ·rw [ee];show bM (.mk 23 0 0 _ [] [x,v] 0)≤_;rw [gG,oG];simp;omega
    ·obtain⟨x,y,p,ee,hx,hy⟩:=EO h1 h;rw [ee] at hc;rw [gG,oG] at hc;refine⟨?_,pre++u::t::pre',u',by simp,?_⟩
     ·rw [ee];exact .setix x y v 0 hx hy h1'
     ·rw [ee];show bM (.mk 24 0 0 bz [] [x,y,v] 0)≤_;rw [gG,AR];simp;omega
   ·obtain⟨h1,pre,u,rfl,hc,_,_⟩:=hq;exact⟨.sexpr e 0 h1,pre,u,rfl,by unfold iH;rw [gG,iM];simp;omega⟩
theorem Ak:∀ f,Pw f
 | 0=>RZ
 | f+1=>Nj (Ak f)
end Go.Proofs.YtdnnmjhfidimcaaGreatDoor
