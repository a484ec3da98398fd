/- Steps of a region that draws, in few words. Places play no part in what is read. A right tree comes back from its tokens: expressions. -/
import Derived.Test.YtdnnmjhfidimcaaGreatDoorJoint2
import Derived.Deep.RegionHeld3
import Derived.KernelRfl
import Derived.Deep.Draws
import Derived.Test.YtdnnmjhfidimcaaGreatDoorJoint3
import Derived.Test.YtdnnmjhfidimcaaGreatDoorJoint9
namespace Go.Proofs.YtdnnmjhfidimcaaGreatDoor
open Go.RowKit
section
variable {P:Program} {md:Region.Mode} {ops:Array Oper} {Q:Exit→Act→World→Prop} {S:World→Prop}
theorem tk (i:Nat) {oi:Oper} {v:Value} {fuel:Nat} {listed:Array Bool} {a b:Act} {w:World}
  (hy:∀ w,S w→(execOp a.eval oi).run P w=.ok (.value v) w) (h:wpAnyH P md ops Q S fuel (listed.setIfInBounds i true) b w)
  (hi:ops[i]? = some oi:=by rfl) (hs:Region.noSelect ops=true:=by kernel_rfl) (hf:Region.free md ops listed i=true:=by kernel_rfl) (hr:(Region.ready md ops listed).contains i=true:=by kernel_rfl)
  (hQ:∀ c a w,Q (.panic c) (a.put oi.dst v) w→Q (.panic c) a w:=by exact fun _ _ _ h=>h) (hg:Region.wanted oi (yielded ops a.tmps)=true:=by rfl) (hS:S w:=by assumption)
  (hb:a.put oi.dst v=b:=by simp only [Act.put,List.setIfInBounds_toArray,List.set_cons_zero,List.set_cons_succ,List.getElem_toArray,List.getElem_cons_succ,List.getElem_cons_zero];rfl):wpAnyH P md ops Q S (fuel+1) listed a w:=
 wpAnyH_take hi hs hf hr hQ (Or.inl ⟨hg,hy⟩) hS (hb▸h)
theorem QI (i:Nat) {oi:Oper} {v:Value} {fuel:Nat} {listed:Array Bool} {a b:Act} {w:World}
  (h:wpAnyH P md ops Q S fuel (listed.setIfInBounds i true) b w)
  (hi:ops[i]? = some oi:=by rfl) (hy:∀ w,S w→(execOp a.eval oi).run P w=.ok (.value v) w:=by intro w hSw;go_simp<;>(try with_reducible rfl)) (hs:Region.noSelect ops=true:=by kernel_rfl) (hf:Region.free md ops listed i=true:=by kernel_rfl) (hr:(Region.ready md ops listed).contains i=true:=by kernel_rfl)
  (hQ:∀ c a w,Q (.panic c) (a.put oi.dst v) w→Q (.panic c) a w:=by exact fun _ _ _ h=>h) (hg:Region.wanted oi (yielded ops a.tmps)=true:=by rfl) (hS:S w:=by assumption)
  (hb:a.put oi.dst v=b:=by simp only [Act.put,List.setIfInBounds_toArray,List.set_cons_zero,List.set_cons_succ,List.getElem_toArray,List.getElem_cons_succ,List.getElem_cons_zero];rfl):wpAnyH P md ops Q S (fuel+1) listed a w:=
 wpAnyH_take hi hs hf hr hQ (Or.inl ⟨hg,hy⟩) hS (hb▸h)
theorem QR (i:Nat) {oi:Oper} {fuel:Nat} {listed:Array Bool} {a b:Act} {w:World} (h:wpAnyH P md ops Q S fuel (listed.setIfInBounds i true) b w)
  (hi:ops[i]? = some oi:=by rfl) (hs:Region.noSelect ops=true:=by kernel_rfl) (hf:Region.free md ops listed i=true:=by kernel_rfl) (hr:(Region.ready md ops listed).contains i=true:=by kernel_rfl)
  (hQ:∀ c a w,Q (.panic c) (a.put oi.dst undef) w→Q (.panic c) a w:=by exact fun _ _ _ h=>h) (hg:Region.wanted oi (yielded ops a.tmps)=false:=by rfl) (hS:S w:=by assumption)
  (hb:a.put oi.dst undef=b:=by simp only [Act.put,List.setIfInBounds_toArray,List.set_cons_zero,List.set_cons_succ,List.getElem_toArray,List.getElem_cons_succ,List.getElem_cons_zero];rfl):wpAnyH P md ops Q S (fuel+1) listed a w:=
 wpAnyH_take hi hs hf hr hQ (Or.inr ⟨hg,rfl⟩) hS (hb▸h)
theorem iV (i:Nat) {o:Oper} {fuel:Nat} {listed:Array Bool} {a:Act} {w:World}
  (h:∀ K':Act→World→Prop,Shut (∀ a w,S w→(S w→wpAnyH P md ops Q S fuel (listed.setIfInBounds i true) a w)→K' a w)→if Region.wanted o (yielded ops a.tmps)=true then Oper.wp P o a w K' Q else K' (a.put o.dst undef) w)
  (ho:ops[i]? = some o:=by rfl) (hr:Region.ready md ops listed=[i]:=by kernel_rfl):wpAnyH P md ops Q S (fuel+1) listed a w:=
 wpAnyH_ready hr (by simp) (AllReadyH.cons ho h AllReadyH.nil)
end
def zt (t:Tok):Tok:=⟨t.kind,t.text,t.num,0⟩
mutual
def zN:Nd→Nd
 | .mk k o n s ns ks _=>.mk k o n s ns (zL ks) 0
def zL:List Nd→List Nd
 | []=>[]
 | x::r=>zN x::zL r
end
theorem MX:∀ l:List Nd,zL l=l.map zN
 | []=>by rw [zL];rfl
 | x::r=>by rw [zL,MX r];rfl
theorem fO (k o n:Int) (s:ByteArray) (ns:List ByteArray) (ks:List Nd) (p:Int):zN (.mk k o n s ns ks p)=.mk k o n s ns (ks.map zN) 0:=by rw [zN,MX]
def PR.z:PR→PR
 | .ok t b l=>.ok (zN t) b (l.map zt)
 | .bad l=>.bad (l.map zt)
def PL.z:PL→PL
 | .ok ns ts l=>.ok ns (ts.map zN) (l.map zt)
 | .bad l=>.bad (l.map zt)
theorem IL (t:Nd):(zN t).kind=t.kind:=by cases t;rw [zN];rfl
theorem MY (t:Nd):(zN t).str=t.str:=by cases t;rw [zN];rfl
theorem Dd (t:Nd):(zN t).kids=t.kids.map zN:=by cases t;rw [fO];rfl
theorem EG (l:List Tok):cur (l.map zt)=zt (cur l):=by cases l<;>rfl
theorem De (l:List Tok):(cur (l.map zt)).kind=(cur l).kind:=by rw [EG];rfl
theorem GV (l:List Tok):(cur (l.map zt)).text=(cur l).text:=by rw [EG];rfl
theorem QA (l:List Tok):(cur (l.map zt)).num=(cur l).num:=by rw [EG];rfl
theorem QB (l:List Tok):(cur (l.map zt)).pl=0:=by rw [EG];rfl
theorem mG (l:List Tok) (x:List UInt8):bZ (l.map zt) x=bZ l x:=by unfold bZ;rw [EG];rfl
theorem Pv (k:Bool) (l:List Tok):qC k (l.map zt)=qC k l:=by unfold qC;rw [De]
theorem jP (l:List Tok):(l.map zt).tail=l.tail.map zt:=by cases l<;>rfl
theorem IM:∀ (s:List (List UInt8×Int×Int)) (l:List Tok),pC s (l.map zt)=pC s l
 | [],_=>rfl
 | (x,k,o)::r,l=>by rw [pC,pC,mG,IM r l]
theorem OF (r:Nat) (l:List Tok):lP r (l.map zt)=lP r l:=IM _ l
theorem EI:∀ (s:List Int) (l:List Tok),oK s (l.map zt)=oK s l
 | [],_=>rfl
 | o::r,l=>by rw [oK,oK,mG,EI r l]
theorem MZ (l:List Tok):nS (l.map zt)=nS l:=EI _ l
theorem PR.bind_z {x x':PR} {k k':Nd→Bool→List Tok→PR} (hx:x.z=x') (hk:∀ t b l,(k t b l).z=k' (zN t) b (l.map zt)):(x.bind k).z=x'.bind k':=by
 subst hx;cases x with
 | ok t b l=>exact hk t b l
 | bad l=>rfl
theorem PR.bindL_z {x x':PR} {k k':Nd→Bool→List Tok→PL} (hx:x.z=x') (hk:∀ t b l,(k t b l).z=k' (zN t) b (l.map zt)):(x.bindL k).z=x'.bindL k':=by
 subst hx;cases x with
 | ok t b l=>exact hk t b l
 | bad l=>rfl
theorem PL.bind_z {x x':PL} {k k':List ByteArray→List Nd→List Tok→PR} (hx:x.z=x') (hk:∀ t b l,(k t b l).z=k' t (b.map zN) (l.map zt)):(x.bind k).z=x'.bind k':=by
 subst hx;cases x with
 | ok t b l=>exact hk t b l
 | bad l=>rfl
theorem mY {x:List UInt8} {l:List Tok} {k k':List Tok→PR} (hk:∀ l,(k l).z=k' (l.map zt)):(must x l k).z=must x (l.map zt) k':=by
 unfold must;rw [mG,jP];split
 ·exact hk _
 ·rfl
theorem yP {x:List UInt8} {l:List Tok} {k k':List Tok→PL} (hk:∀ l,(k l).z=k' (l.map zt)):(mustL x l k).z=mustL x (l.map zt) k':=by
 unfold mustL;rw [mG,jP];split
 ·exact hk _
 ·rfl
theorem IN {x:Bool} {l:List Tok} {k k':ByteArray→List Tok→PR} (hk:∀ s l,(k s l).z=k' s (l.map zt)):(kF x l k).z=kF x (l.map zt) k':=by
 unfold kF;rw [Pv,jP,GV];split
 ·exact hk _ _
 ·rfl
theorem IO {x:Bool} {l:List Tok} {k k':ByteArray→List Tok→PL} (hk:∀ s l,(k s l).z=k' s (l.map zt)):(wordL x l k).z=wordL x (l.map zt) k':=by
 unfold wordL;rw [Pv,jP,GV];split
 ·exact hk _ _
 ·rfl
theorem iU {c:Prop} [Decidable c] {a b a' b':PR} (h1:a.z=a') (h2:b.z=b'):(if c then a else b).z=if c then a' else b':=by split<;>assumption
theorem uL {c:Prop} [Decidable c] {a b a' b':PL} (h1:a.z=a') (h2:b.z=b'):(if c then a else b).z=if c then a' else b':=by split<;>assumption
theorem oF {t t':Nd} {b:Bool} {l:List Tok} (h:zN t=t'):(PR.ok t b l).z=.ok t' b (l.map zt):=by subst h;rfl
theorem EJ {ns:List ByteArray} {ts ts':List Nd} {l:List Tok} (h:ts.map zN=ts'):(PL.ok ns ts l).z=.ok ns ts' (l.map zt):=by subst h;rfl
theorem zK (k:Int) (ks:List Nd):zN (hJ k ks)=hJ k (ks.map zN):=fO _ _ _ _ _ _ _
theorem zO (k o:Int) (ks:List Nd):zN (gK k o ks)=gK k o (ks.map zN):=fO _ _ _ _ _ _ _
theorem zS (k:Int) (s:ByteArray) (ks:List Nd):zN (tN k s ks)=tN k s (ks.map zN):=fO _ _ _ _ _ _ _
theorem Na (e v:Nd):zN (becomeN e v)=becomeN (zN e) (zN v):=by
 unfold becomeN;rw [IL,MY,Dd];split
 ·rw [zS];simp
 split
 ·rw [zK];simp
 ·rw [fO];simp;cases e;rw [fO];rfl
theorem Nb:∀ (f:Nat) (ns:List ByteArray) (l:List Tok),(tX f ns l).z=tX f ns (l.map zt)
 | 0,_,_=>rfl
 | f+1,ns,l=>by
  rw [tX,tX];refine IO fun s l=>?_
  rw [mG,jP];exact uL (Nb f _ _) (yP fun l=>rfl)
theorem OG (l:List Tok):(rC l).z=rC (l.map zt):=by
 unfold rC;rw [mG,jP];exact uL rfl (Nb _ _ _)
structure OH (f:Nat):Prop where
 rank:∀ r l,(aS f r l).z=aS f r (l.map zt)
 more:∀ r e b l,(gI f r e b l).z=gI f r (zN e) b (l.map zt)
 post:∀ l,(kG f l).z=kG f (l.map zt)
 tail:∀ e b l,(fB f e b l).z=fB f (zN e) b (l.map zt)
 args:∀ ks l,(jB f ks l).z=jB f (ks.map zN) (l.map zt)
 argsM:∀ ks l,(iB f ks l).z=iB f (ks.map zN) (l.map zt)
 atom:∀ l,(hH f l).z=hH f (l.map zt)
 obj:∀ l,(tO f l).z=tO f (l.map zt)
 field:∀ ns ks l,(kH f ns ks l).z=kH f ns (ks.map zN) (l.map zt)
 objM:∀ ns ks l,(lW f ns ks l).z=lW f ns (ks.map zN) (l.map zt)
 block:∀ l,(dY f l).z=dY f (l.map zt)
 stmts:∀ ks l,(eG f ks l).z=eG f (ks.map zN) (l.map zt)
 ask:∀ l,(mS f l).z=mS f (l.map zt)
 stmt:∀ l,(kI f l).z=kI f (l.map zt)
 short:∀ l,(iK f l).z=iK f (l.map zt)
theorem Qf:OH 0:=by
 constructor<;>intros<;>simp only [aS,gI,kG,fB,jB,iB,hH,tO,kH,lW,dY,eG,mS,kI,iK]<;>rfl
theorem Le {f:Nat} (H:OH f):OH (f+1) where
 rank r l:=by
  rw [aS,aS];simp only [mG,jP];refine iU (iU (PR.bind_z (H.rank _ _) fun e b l=>oF (zO _ _ _)) (iU (PR.bind_z (H.rank _ _) fun e b l=>oF (zO _ _ _)) (H.post _))) (PR.bind_z (H.rank _ _) fun e b l=>H.more _ _ _ _)
 more r e b l:=by
  rw [gI,gI,OF];cases lP r l with
  | none=>rfl
  | some p=>
   obtain⟨k,o⟩:=p;simp only [jP];refine PR.bind_z (H.rank _ _) fun e' b l=>?_
   rw [H.more,zO];rfl
 post l:=by
  rw [kG,kG];exact PR.bind_z (H.atom _) fun e b l=>H.tail _ _ _
 tail e b l:=by
  rw [fB,fB];simp only [mG,jP];refine iU (IN fun s l=>?_) (iU (PR.bind_z (H.rank _ _) fun i b l=>mY fun l=>?_) (iU (PL.bind_z (H.args _ _) fun _ ks l=>?_) rfl))
  ·simp only [mG,jP];refine iU (PL.bind_z (H.args _ _) fun _ ks l=>?_) ?_
   ·rw [H.tail,zS]
   ·rw [H.tail,zS];rfl
  ·rw [H.tail,zK];rfl
  ·rw [H.tail,zK]
 args ks l:=by
  rw [jB,jB];simp only [mG,jP];refine uL (EJ rfl) (PR.bindL_z (H.rank _ _) fun e b l=>?_);rw [H.argsM,List.map_append];rfl
 argsM ks l:=by
  rw [iB,iB];simp only [mG,jP,List.length_map];refine uL (PR.bindL_z (H.rank _ _) fun e b l=>?_) (yP fun l=>EJ rfl);rw [H.argsM,List.map_append];rfl
 atom l:=by
  rw [hH,hH];simp only [mG,jP,De,GV,QA,QB,MZ];refine iU (oF (fO _ _ _ _ _ _ _)) (iU (oF (zS _ _ _)) (iU (oF (fO _ _ _ _ _ _ _)) (iU (oF (zK _ _)) (iU (oF (fO _ _ _ _ _ _ _)) (iU (oF (zK _ _)) (iU (oF (zK _ _))
   (iU (PR.bind_z (H.rank _ _) fun e b l=>mY fun l=>rfl) (iU (PL.bind_z (H.obj _) fun ns ks l=>oF (fO _ _ _ _ _ _ _))
   (iU (mY fun l'=>PL.bind_z (OG _) fun ns _ l'=>PR.bind_z (H.block _) fun b _ l'=>oF ?_) ?_)))))))))
  ·rw [fO,Dd]
  ·cases nS l with
   | none=>rfl
   | some o=>
    exact mY fun l=>PR.bind_z (H.rank _ _) fun e b l=>iU (mY fun l=>PR.bind_z (H.rank _ _) fun e' b l=>mY fun l=>oF (zO _ _ _)) (mY fun l=>oF (zO _ _ _))
 obj l:=by
  rw [tO,tO];simp only [mG,jP];exact uL (EJ rfl) (H.field _ _ _)
 field ns ks l:=by
  rw [kH,kH];refine IO fun s l=>yP fun l=>PR.bindL_z (H.rank _ _) fun e b l=>?_
  rw [H.objM,List.map_append];rfl
 objM ns ks l:=by
  rw [lW,lW];simp only [mG,jP,List.length_map];exact uL (H.field _ _ _) (yP fun l=>EJ rfl)
 block l:=by
  rw [dY,dY];exact mY fun l=>PL.bind_z (H.stmts _ _) fun _ ks l=>mY fun l=>oF (zK _ _)
 stmts ks l:=by
  rw [eG,eG];simp only [mG,De,List.length_map];refine uL (PR.bindL_z (H.stmt _) fun e b l=>?_) (EJ rfl);rw [H.stmts,List.map_append];rfl
 ask l:=by
  rw [mS,mS];exact mY fun l=>PR.bind_z (H.rank _ _) fun e b l=>mY fun l=>rfl
 stmt l:=by
  rw [kI,kI];simp only [mG,jP];refine iU (PR.bind_z (H.ask _) fun e b l=>PR.bind_z (H.block _) fun y b l=>?_) (iU (PR.bind_z (H.ask _) fun e b l=>PR.bind_z (H.block _) fun y b l=>oF (zK _ _)) (PR.bind_z (H.short _) fun e b l=>mY fun l=>rfl));simp only [mG,jP];refine iU (PR.bind_z (H.block _) fun z b l=>oF (zK _ _)) (oF ?_);rw [zK];simp [zK]
 short l:=by
  rw [iK,iK];simp only [mG,jP,QB];refine iU (IN fun s l'=>mY fun l'=>PR.bind_z (H.rank _ _) fun e b l'=>oF (fO _ _ _ _ _ _ _)) (iU (PR.bind_z (H.rank _ _) fun e b l=>oF (zK _ _)) (iU (PR.bind_z (H.rank _ _) fun e b l=>oF (zK _ _))
   (iU (PR.bind_z (H.post _) fun e b l=>?_) (PR.bind_z (H.rank _ _) fun e b l=>?_))))
  ·simp only [IL,MY,Dd];refine iU (oF ?_) rfl;split
   ·rw [zS]
   ·rw [zK]
  ·simp only [mG,jP];exact iU (PR.bind_z (H.rank _ _) fun v b l=>oF (Na _ _)) (oF (zK _ _))
theorem QC:∀ f,OH f
 | 0=>Qf
 | f+1=>Le (QC f)
def Ev {α:Type} (g:Nat→α) (res:α):Prop:=∃ f0,∀ f,f0≤f→g f=res
theorem Ev.const {α:Type} (a:α):Ev (fun _=>a) a:=⟨0,fun _ _=>rfl⟩
theorem Ev.up {α:Type} {g h:Nat→α} {res:α} (e:∀ f,g (f+1)=h f) (H:Ev h res):Ev g res:=by
 obtain⟨f0,h0⟩:=H;refine⟨f0+1,fun f hf=>?_⟩;obtain⟨f',rfl⟩:∃ f',f=f'+1:=⟨f - 1,by omega⟩
 rw [e];exact h0 f' (by omega)
theorem Ev.of {α:Type} {g h:Nat→α} {res:α} (e:∀ f,g f=h f) (H:Ev h res):Ev g res:=by
 obtain⟨f0,h0⟩:=H;exact⟨f0,fun f hf=>(e f).trans (h0 f hf)⟩
theorem Ev.bind {x:Nat→PR} {k:Nat→Nd→Bool→List Tok→PR} {t:Nd} {b:Bool} {l:List Tok} {res:PR} (hx:Ev x (.ok t b l)) (hk:Ev (fun f=>k f t b l) res):Ev (fun f=>(x f).bind (k f)) res:=by
 obtain⟨f1,h1⟩:=hx;obtain⟨f2,h2⟩:=hk;refine⟨max f1 f2,fun f hf=>?_⟩;show (x f).bind (k f)=res;rw [h1 f (by omega),PR.bind_ok];exact h2 f (by omega)
theorem Ev.bindL {x:Nat→PR} {k:Nat→Nd→Bool→List Tok→PL} {t:Nd} {b:Bool} {l:List Tok} {res:PL} (hx:Ev x (.ok t b l)) (hk:Ev (fun f=>k f t b l) res):Ev (fun f=>(x f).bindL (k f)) res:=by
 obtain⟨f1,h1⟩:=hx;obtain⟨f2,h2⟩:=hk;refine⟨max f1 f2,fun f hf=>?_⟩;show (x f).bindL (k f)=res;rw [h1 f (by omega),PR.bindL_ok];exact h2 f (by omega)
theorem Ev.lbind {x:Nat→PL} {k:Nat→List ByteArray→List Nd→List Tok→PR} {t:List ByteArray} {b:List Nd} {l:List Tok} {res:PR} (hx:Ev x (.ok t b l)) (hk:Ev (fun f=>k f t b l) res):Ev (fun f=>(x f).bind (k f)) res:=by
 obtain⟨f1,h1⟩:=hx;obtain⟨f2,h2⟩:=hk;refine⟨max f1 f2,fun f hf=>?_⟩;show (x f).bind (k f)=res;rw [h1 f (by omega),PL.bind_ok];exact h2 f (by omega)
/-! tokens that come -/
theorem Qg (x y:List UInt8):gH (cY x) y=(x==y):=by simp [gH,cY]
theorem Qh (x y:List UInt8):gH (rH x) y=(x==y):=by simp [gH,rH]
theorem Qi (s:ByteArray) (y:List UInt8):gH (CW s) y=false:=by simp [gH,CW]
theorem Nc (t:Tok) (l:List Tok) (x:List UInt8):bZ (t::l) x=gH t x:=rfl
theorem fM (x y:List UInt8) (l:List Tok):bZ (cY x::l) y=(x==y):=Qg x y
theorem kY (x y:List UInt8) (l:List Tok):bZ (rH x::l) y=(x==y):=Qh x y
theorem Qj (s:ByteArray) (y:List UInt8) (l:List Tok):bZ (CW s::l) y=false:=Qi s y
theorem Df {t:Tok} {x y:List UInt8} (h:gH t x=true) (hn:(x==y)=false):gH t y=false:=by
 unfold gH at h ⊢;rw [Bool.and_eq_true,beq_iff_eq] at h;rw [h.2,hn,Bool.and_false]
theorem Qk (s:ByteArray) (y:List UInt8) (hy:jG y=false):gH (Bm s) y=false:=by
 unfold gH Bm;cases hk:jG s.data.toList with
 | false=>simp
 | true=>
  have:(s.data.toList==y)=false:=by
   rw [beq_eq_false_iff_ne];intro e;rw [e,hy] at hk;cases hk
  rw [this,Bool.and_false]
theorem kQ (x:List UInt8) (l:List Tok) (k:List Tok→PR):must x (cY x::l) k=k l:=by unfold must;rw [fM,if_pos (by simp)];rfl
theorem sM (x:List UInt8) (l:List Tok) (k:List Tok→PL):mustL x (cY x::l) k=k l:=by unfold mustL;rw [fM,if_pos (by simp)];rfl
theorem EK (s:ByteArray) (l:List Tok) (k:ByteArray→List Tok→PR):kF true (Bm s::l) k=k s l:=by
 unfold kF;rw [if_pos (by unfold qC cur Bm;cases jG s.data.toList<;>rfl)];rfl
theorem EL (s:ByteArray) (l:List Tok) (k:ByteArray→List Tok→PL):wordL true (Bm s::l) k=k s l:=by
 unfold wordL;rw [if_pos (by unfold qC cur Bm;cases jG s.data.toList<;>rfl)];rfl
theorem Nf (b:Bool) (s:ByteArray) (l:List Tok) (k:ByteArray→List Tok→PR):kF b (CW s::l) k=k s l:=by
 unfold kF;rw [if_pos (by unfold qC;rfl)];rfl
theorem EM (b:Bool) (s:ByteArray) (l:List Tok) (k:ByteArray→List Tok→PL):wordL b (CW s::l) k=k s l:=by
 unfold wordL;rw [if_pos (by unfold qC;rfl)];rfl
theorem gW (x:List UInt8) (r:List Pc):aK (sg x::r)=cY x::aK r:=rfl
theorem tU (x:List UInt8) (r:List Pc):aK (kw x::r)=rH x::aK r:=rfl
theorem Ng (s:ByteArray) (r:List Pc):aK (nm s::r)=CW s::aK r:=rfl
theorem IP (s:ByteArray) (r:List Pc):aK (pp s::r)=Bm s::aK r:=rfl
theorem jR (r:List Pc):aK (.bl::r)=aK r:=rfl
theorem nU:aK []=[]:=rfl
/-! with which tokens an expression begins -/
def firstL:List (List UInt8):=[[40],[123],[45],[33],[110,117,108,108],[116,114,117,101],[102,97,108,115,101],[116,104,105,115],[102,110],
 [99,111,117,110,116],[107,101,121],[104,97,115],[112,114,111,116,111],[115,101,116,112,114,111,116,111],[108,101,110],[115,116,114]]
def sN (t:Tok):Bool:=t.kind==1||t.kind==3||t.kind==4||firstL.any (gH t)
theorem wW {t:Tok} (h:sN t=true) {x:List UInt8} (hx:firstL.contains x=false):gH t x=false:=by
 cases hq:gH t x with
 | false=>rfl
 | true=>
  exfalso;unfold sN at h;have hk:t.kind=2∨t.kind=5:=by
   unfold gH at hq;rw [Bool.and_eq_true,Bool.or_eq_true,beq_iff_eq,beq_iff_eq] at hq;exact hq.1
  have h1:(t.kind==1||t.kind==3||t.kind==4)=false:=by
   rcases hk with h | h<;>rw [h]<;>rfl
  rw [h1,Bool.false_or,List.any_eq_true] at h;obtain⟨y,hy,hty⟩:=h;have hne:(x==y)=false:=by
   rw [beq_eq_false_iff_ne];intro e;subst e;rw [List.contains_iff_mem.2 hy] at hx;cases hx
  rw [Df hq hne] at hty;cases hty
theorem AB {t:Tok} (h:sN t=true):t.kind≠6:=by
 intro e;unfold sN at h;have h0:∀ x,gH t x=false:=by intro x;unfold gH;rw [e];rfl
 have h2:firstL.any (gH t)=false:=by rw [List.any_eq_false];intro x _;rw [h0];decide
 rw [h2,e] at h;cases h
def Firsts (ts:List Tok):Prop:=∃ t r,ts=t::r∧sN t=true
theorem Firsts.app {a b:List Tok} (h:Firsts a):Firsts (a++b):=by
 obtain⟨t,r,e,h1⟩:=h;exact⟨t,r++b,by rw [e];rfl,h1⟩
theorem Firsts.not {l:List Tok} (h:Firsts l) {x:List UInt8} (hx:firstL.contains x=false):bZ l x=false:=by
 obtain⟨t,r,rfl,h1⟩:=h;exact wW h1 hx
theorem Firsts.kind {l:List Tok} (h:Firsts l):(cur l).kind≠6:=by
 obtain⟨t,r,rfl,h1⟩:=h;exact AB h1
/-! units: tokens of which a node comes, whatever stands behind them -/
def GW (l:List Tok):Prop:=bZ l [46]=false∧bZ l [91]=false∧bZ l [40]=false
def Stop (r:Nat) (l:List Tok):Prop:=GW l∧∀ r',r≤r'→lP r' l=none
theorem Stop.up {r r':Nat} {l:List Tok} (h:Stop r l) (hr:r≤r'):Stop r' l:=⟨h.1,fun q hq=>h.2 q (by omega)⟩
def Unit8 (ts:List Tok) (e:Nd) (b nc:Bool):Prop:=
 Firsts ts∧bZ ts [45]=false∧bZ ts [33]=false∧∀ rest res,(nc=true→bZ rest [40]=false)→Ev (fun f=>fB f e b rest) res→Ev (fun f=>kG f (ts++rest)) res
def UnitAt (r:Nat) (ts:List Tok) (e:Nd) (b:Bool):Prop:=
 Firsts ts∧if r≤6 then ∀ rest res,Stop (r+1) rest→Ev (fun f=>gI f r e b rest) res→Ev (fun f=>aS f r (ts++rest)) res
  else ∀ rest,GW rest→Ev (fun f=>aS f 7 (ts++rest)) (.ok e b rest)
theorem Lf {r:Nat} {e:Nd} {b:Bool} {l:List Tok} (h:lP r l=none):Ev (fun f=>gI f r e b l) (.ok e b l):=
 .up (h:=fun _=>.ok e b l) (fun f=>by rw [gI,h]) (.const _)
theorem Ca {e:Nd} {b:Bool} {l:List Tok} (h:GW l):Ev (fun f=>fB f e b l) (.ok e b l):=
 .up (h:=fun _=>.ok e b l) (fun f=>by rw [fB,h.1,h.2.1,h.2.2];rfl) (.const _)
theorem mH {ts rest:List Tok} (h:Firsts ts) (x:List UInt8):bZ (ts++rest) x=bZ ts x:=by
 obtain⟨t,r,rfl,_⟩:=h;rfl
theorem Unit8.at7 {ts:List Tok} {e:Nd} {b nc:Bool} (h:Unit8 ts e b nc):UnitAt 7 ts e b:=by
 obtain⟨h1,h2,h3,h4⟩:=h;refine⟨h1,?_⟩;rw [if_neg (by omega)];intro rest hr;refine .up (h:=fun f=>kG f (ts++rest)) (fun f=>?_) (h4 rest _ (fun _=>hr.2.2) (Ca hr));rw [aS,if_pos (by omega),mH h1,mH h1,h2,h3];rfl
theorem UnitAt.whole {r:Nat} {ts:List Tok} {e:Nd} {b:Bool} (h:UnitAt r ts e b) (hr7:r≤7) {rest:List Tok} (hr:Stop r rest):Ev (fun f=>aS f r (ts++rest)) (.ok e b rest):=by
 obtain⟨h1,h2⟩:=h;by_cases h6:r≤6
 ·rw [if_pos h6] at h2;exact h2 rest _ (hr.up (by omega)) (Lf (hr.2 r (Nat.le_refl _)))
 ·rw [if_neg h6] at h2;have:r=7:=by omega
  subst this;exact h2 rest hr.1
theorem UnitAt.down1 {r:Nat} {ts:List Tok} {e:Nd} {b:Bool} (h:UnitAt (r+1) ts e b) (hr:r≤6):UnitAt r ts e b:=by
 refine⟨h.1,?_⟩;rw [if_pos hr];intro rest res hs hm;have hw:=h.whole (by omega) hs;refine .up (h:=fun f=>(aS f (r+1) (ts++rest)).bind fun e b l=>gI f r e b l) (fun f=>by rw [aS,if_neg (by omega)]) ?_;exact .bind hw hm
theorem UnitAt.down {ts:List Tok} {e:Nd} {b:Bool} : ∀ (n r:Nat),r+n≤7→UnitAt (r+n) ts e b→UnitAt r ts e b
 | 0,_,_,h=>h
 | n+1,r,hr,h=>(UnitAt.down n (r+1) (by omega) (by rw [show r+1+n=r+(n+1) by omega];exact h)).down1 (by omega)
theorem UnitAt.to {q r:Nat} {ts:List Tok} {e:Nd} {b:Bool} (h:UnitAt q ts e b) (hq:q≤7) (hr:r≤q):UnitAt r ts e b:=
 .down (q - r) r (by omega) (by rw [show r+(q - r)=q by omega];exact h)
theorem eI {c:UInt8} {l:List Tok} (h:c=41∨c=93∨c=44∨c=59∨c=125):Stop 1 (cY [c]::l):=by
 have h0:∀ x:List UInt8,x≠[c]→bZ (cY [c]::l) x=false:=by
  intro x hx;rw [fM,beq_eq_false_iff_ne];exact fun e=>hx e.symm
 refine⟨?_,fun r' _=>?_⟩
 ·refine⟨h0 _ ?_,h0 _ ?_,h0 _ ?_⟩<;>(rcases h with rfl | rfl | rfl | rfl | rfl<;>decide)
 ·unfold lP zD;split<;>simp only [pC]<;>rcases h with rfl | rfl | rfl | rfl | rfl<;>simp [fM]
theorem vS {ts:List Tok} {e:Nd} {b:Bool} (h:UnitAt 1 ts e b):Unit8 (cY [40]::(ts++[cY [41]])) e false false:=by
 refine⟨⟨_,_,rfl,by decide⟩,by rw [fM];rfl,by rw [fM];rfl,fun rest res _ ht=>?_⟩;have hw:=h.whole (by omega) (rest:=cY [41]::rest) (eI (.inl rfl));have ha:Ev (fun f=>hH f (cY [40]::(ts++[cY [41]])++rest)) (.ok e false rest):=by
  refine .up (h:=fun f=>(aS f 1 (ts++(cY [41]::rest))).bind fun e _ l=>must [41] l fun l=>.ok e false l) (fun f=>?_) (.bind hw ?_)
  ·rw [hH];simp [cur,cY,bZ,gH]
  ·exact .of (fun f=>kQ _ _ _) (.const _)
 exact .up (h:=fun f=>(hH f (cY [40]::(ts++[cY [41]])++rest)).bind fun e b l=>fB f e b l) (fun f=>by rw [kG]) (.bind ha ht)
theorem lT {t:Tok} {e:Nd} {b nc:Bool} (hf:sN t=true) (h45:gH t [45]=false) (h33:gH t [33]=false) (h:∀ f rest,hH (f+1) (t::rest)=.ok e b rest):Unit8 [t] e b nc:=by
 refine⟨⟨_,_,rfl,hf⟩,h45,h33,fun rest res _ ht=>?_⟩;refine .up (h:=fun f=>(hH f (t::rest)).bind fun e b l=>fB f e b l) (fun f=>by rw [List.cons_append,List.nil_append,kG]) ?_;exact .bind (.up (h:=fun _=>.ok e b rest) (fun f=>h f rest) (.const _)) ht
def oV (x:Nd):Bool:=decide (x.kind=5∨x.kind=13∨x.kind=14)
def gE (x:Nd):Nat:=(rankT x.kind x.op).toNat
def BackE (x:Nd):Prop:=
 UnitAt (min 7 (gE x)) (aK (pcN x).e) (zN x) (oV x)∧(8≤gE x→Unit8 (aK (pcN x).e) (zN x) (oV x) (decide (x.kind=13)))
theorem iH {x:Nd} (h:Unit8 (aK (pcN x).e) (zN x) (oV x) (decide (x.kind=13))) (hr:7≤gE x):BackE x:=
 ⟨by rw [Nat.min_eq_left hr];exact h.at7,fun _=>h⟩
theorem yQ {x:Nd} (hr:gE x≤7) (h:UnitAt (gE x) (aK (pcN x).e) (zN x) (oV x)):BackE x:=
 ⟨by rw [Nat.min_eq_right hr];exact h,fun h8=>by omega⟩
theorem eX {x:Nd} (h:Rt 1 x):1≤gE x:=by
 cases h<;>first | (simp only [gE,Nd.kind,Nd.op];decide) | (rename_i ho _ _;simp only [gE,Nd.kind,Nd.op,rankT];grind) | skip
theorem EN (x:Nd):(pcN x).rank=rankT x.kind x.op:=by obtain⟨k,o,n,s,ns,ks,p⟩:=x;rw [cI];rfl
theorem Nh (x:Nd):(pcN x).kind=x.kind:=by obtain⟨k,o,n,s,ns,ks,p⟩:=x;rw [cI];rfl
theorem BackE.one {x:Nd} (h:BackE x) (hp:1≤gE x):UnitAt 1 (aK (pcN x).e) (zN x) (oV x):=h.1.to (by omega) (by omega)
theorem uM {x:Nd} (h:BackE x) (hp:1≤gE x) {r:Nat} (hr:r≤7):∃ b,UnitAt r (aK (iG (pcN x) r)) (zN x) b:=by
 unfold iG;rw [EN];by_cases hq:(r:Int)≤rankT x.kind x.op
 ·rw [if_pos hq];exact⟨_,h.1.to (by omega) (by unfold gE;omega)⟩
 ·rw [if_neg hq,gW,aZ];exact⟨_,(vS (h.one hp)).at7.to (by omega) hr⟩
theorem pI {x:Nd} (h:BackE x) (hp:1≤gE x) (r:Int) (hr:8≤r):∃ b,Unit8 (aK (iG (pcN x) r)) (zN x) b (decide (x.kind=13∧r≤rankT x.kind x.op)):=by
 unfold iG;rw [EN];by_cases hq:r≤rankT x.kind x.op
 ·rw [if_pos hq];have h8:=h.2 (by unfold gE;omega);refine⟨oV x,?_⟩;rw [show decide (x.kind=13∧r≤rankT x.kind x.op)=decide (x.kind=13) by simp [hq]];exact h8
 ·rw [if_neg hq,gW,aZ];refine⟨false,?_⟩;rw [show decide (x.kind=13∧r≤rankT x.kind x.op)=false by simp [hq]];exact vS (h.one hp)
/-! expressions, kind by kind -/
theorem Cb {o:Int} (h:1≤o∧o≤11) (l:List Tok):∃ r:Nat,rankT 10 o=r∧3≤r∧r≤6∧lP r (cY (signT o)::l)=some (10,o)∧Stop (r+1) (cY (signT o)::l):=by
 obtain rfl | rfl | rfl | rfl | rfl | rfl | rfl | rfl | rfl | rfl | rfl:o=1∨o=2∨o=3∨o=4∨o=5∨o=6∨o=7∨o=8∨o=9∨o=10∨o=11:=by omega
 case' inl=>refine⟨5,?_⟩
 case' inr.inl=>refine⟨5,?_⟩
 case' inr.inr.inl=>refine⟨6,?_⟩
 case' inr.inr.inr.inl=>refine⟨6,?_⟩
 case' inr.inr.inr.inr.inl=>refine⟨6,?_⟩
 case' inr.inr.inr.inr.inr.inl=>refine⟨4,?_⟩
 case' inr.inr.inr.inr.inr.inr.inl=>refine⟨4,?_⟩
 case' inr.inr.inr.inr.inr.inr.inr.inl=>refine⟨4,?_⟩
 case' inr.inr.inr.inr.inr.inr.inr.inr.inl=>refine⟨4,?_⟩
 case' inr.inr.inr.inr.inr.inr.inr.inr.inr.inl=>refine⟨3,?_⟩
 case' inr.inr.inr.inr.inr.inr.inr.inr.inr.inr=>refine⟨3,?_⟩
 all_goals
  refine⟨rfl,by omega,by omega,rfl,⟨rfl,rfl,rfl⟩,fun r' hr'=>?_⟩;unfold lP zD;split<;>first | omega | rfl
theorem Ni (l:List Tok):lP 2 (cY [38,38]::l)=some (11,0)∧Stop 3 (cY [38,38]::l):=by
 refine⟨rfl,⟨rfl,rfl,rfl⟩,fun r' hr'=>?_⟩;unfold lP zD;split<;>first | omega | rfl
theorem OI (l:List Tok):lP 1 (cY [124,124]::l)=some (12,0)∧Stop 2 (cY [124,124]::l):=by
 refine⟨rfl,⟨rfl,rfl,rfl⟩,fun r' hr'=>?_⟩;unfold lP zD;split<;>first | omega | rfl
theorem Dg {r:Nat} (hr:r≤6) {k o:Int} {g:List UInt8} (hg:∀ l,lP r (cY g::l)=some (k,o)∧Stop (r+1) (cY g::l)) {tx ty:List Tok} {ex ey:Nd} {bx b2:Bool} (hx:UnitAt r tx ex bx) (hy:UnitAt (r+1) ty ey b2) :
  UnitAt r (tx++(cY g::ty)) (gK k o [ex,ey]) false:=by
 refine⟨hx.1.app,?_⟩;rw [if_pos hr];intro rest res hs hm;have h1:=hx.2;rw [if_pos hr] at h1;have hw:=hy.whole (by omega) hs;have h2:=h1 (cY g::(ty++rest)) res (hg _).2 (.up (h:=fun f=>(aS f (r+1) (ty++rest)).bind fun e' _ l=>gI f r (gK k o [ex,e']) false l) (fun f=>by rw [gI,(hg _).1];rfl) (.bind hw hm));rw [List.append_assoc];exact h2
theorem qW {x y:Nd} {r:Nat} (hr1:1≤r) (hr:r≤6) {k o:Int} {g:List UInt8} (hg:∀ l,lP r (cY g::l)=some (k,o)∧Stop (r+1) (cY g::l)) (hx:BackE x) (hy:BackE y) (px:1≤gE x) (py:1≤gE y) :
  UnitAt r (aK (lE r g (pcN x) (pcN y))) (gK k o [zN x,zN y]) false:=by
 obtain⟨bx,ux⟩:=uM hx px (r:=r) (by omega);obtain⟨b2,uy⟩:=uM hy py (r:=r+1) (by omega);have e:aK (lE r g (pcN x) (pcN y))=aK (iG (pcN x) r)++(cY g::aK (iG (pcN y) ((r+1:Nat):Int))):=by
  unfold lE;rw [aZ,jR,gW,jR];rfl
 rw [e];exact Dg hr hg ux uy
theorem Nj {ts:List Tok} {e:Nd} {b nc:Bool} (h:Unit8 ts e b nc) (s:ByteArray):Unit8 (ts++[cY [46],Bm s]) (tN 13 s [e]) true true:=by
 obtain⟨h1,h2,h3,h4⟩:=h;refine⟨h1.app,by rw [mH h1];exact h2,by rw [mH h1];exact h3,fun rest res hn ht=>?_⟩;rw [List.append_assoc];refine h4 _ res (fun _=>by rw [List.cons_append,fM];rfl) ?_;refine .up (h:=fun f=>fB f (tN 13 s [e]) true rest) (fun f=>?_) ht;rw [List.cons_append,fB,fM,if_pos (by decide)];show kF true (Bm s::rest) _=_;rw [EK,hn rfl];rfl
theorem GX {ts ti:List Tok} {e i:Nd} {b nc bi nd:Bool} (h:Unit8 ts e b nc) (hi:UnitAt 1 ti i bi):Unit8 (ts++(cY [91]::(ti++[cY [93]]))) (hJ 14 [e,i]) true nd:=by
 obtain⟨h1,h2,h3,h4⟩:=h;refine⟨h1.app,by rw [mH h1];exact h2,by rw [mH h1];exact h3,fun rest res hn ht=>?_⟩;rw [List.append_assoc];refine h4 _ res (fun _=>by rw [List.cons_append,fM];rfl) ?_;have hw:=hi.whole (by omega) (rest:=cY [93]::rest) (eI (.inr (.inl rfl)));refine .up (h:=fun f=>(aS f 1 (ti++(cY [93]::rest))).bind fun i _ l=>must [93] l fun l=>fB f (hJ 14 [e,i]) true l) (fun f=>?_) (.bind hw (.of (fun f=>kQ _ _ _) ht));rw [List.cons_append,fB,fM,fM,if_neg (by decide),if_pos (by decide)];rw [List.append_assoc];rfl
theorem Cc {rest:List Tok} : ∀ (ks:List Nd) (acc:List Nd),(∀ x∈ks,UnitAt 1 (aK (pcN x).e) (zN x) (oV x))→acc.length+ks.length≤7→
  Ev (fun f=>iB f acc (aK (fJ (ks.map pcN))++(cY [41]::rest))) (.ok [] (acc++ks.map zN) rest)
 | [],acc,_,_=>by
  refine .up (h:=fun _=>.ok [] acc rest) (fun f=>?_) (by simpa using Ev.const (PL.ok [] acc rest));rw [iB];have:bZ (aK (fJ (([]:List Nd).map pcN))++(cY [41]::rest)) [44]=false:=rfl;rw [this,if_neg (by simp)];exact sM _ _ _
 | x::ks,acc,h,hl=>by
  have hx:=h x (by simp);have ih:=Cc (rest:=rest) ks (acc++[zN x]) (fun y hy=>h y (by simp [hy])) (by simp at hl ⊢;omega);have e:aK (fJ ((x::ks).map pcN))++(cY [41]::rest)=cY [44]::(aK (pcN x).e++(aK (fJ (ks.map pcN))++(cY [41]::rest))):=by
   simp only [fJ,List.map_cons,List.flatMap_cons,aZ,List.cons_append,gW,jR,List.append_assoc]
  have hst:Stop 1 (aK (fJ (ks.map pcN))++(cY [41]::rest)):=by
   cases ks with
   | nil=>exact eI (.inl rfl)
   | cons y r=>
    have e2:∃ q,aK (fJ ((y::r).map pcN))++(cY [41]::rest)=cY [44]::q:=by
     simp only [fJ,List.map_cons,List.flatMap_cons,List.cons_append,gW];exact⟨_,rfl⟩
    obtain⟨q,e2⟩:=e2;rw [e2];exact eI (.inr (.inr (.inl rfl)))
  rw [e];have hw:=hx.whole (by omega) hst;refine .up (h:=fun f=>(aS f 1 (aK (pcN x).e++(aK (fJ (ks.map pcN))++(cY [41]::rest)))).bindL fun e _ l=>iB f (acc++[e]) l) (fun f=>?_) (.bindL hw (by simpa using ih));rw [iB,fM,if_pos ⟨by simp at hl;omega,by decide⟩];rfl
theorem EO {a:List Nd} {rest:List Tok} (ks:List Nd) (h:∀ x∈ks,UnitAt 1 (aK (pcN x).e) (zN x) (oV x)) (hl:a.length+ks.length≤7) :
  Ev (fun f=>jB f a (aK (mM (ks.map pcN))++(cY [41]::rest))) (.ok [] (a++ks.map zN) rest):=by
 cases ks with
 | nil=>
  refine .up (h:=fun _=>.ok [] a rest) (fun f=>?_) (by simpa using Ev.const (PL.ok [] a rest));rw [jB];have:bZ (aK (mM (([]:List Nd).map pcN))++(cY [41]::rest)) [41]=true:=rfl;rw [this,if_pos rfl];rfl
 | cons x ks=>
  have hx:=h x (by simp);have ih:=Cc (rest:=rest) ks (a++[zN x]) (fun y hy=>h y (by simp [hy])) (by simp at hl ⊢;omega);have e:aK (mM ((x::ks).map pcN))++(cY [41]::rest)=aK (pcN x).e++(aK (fJ (ks.map pcN))++(cY [41]::rest)):=by
   simp only [mM,List.map_cons,aZ,List.append_assoc]
  have hst:Stop 1 (aK (fJ (ks.map pcN))++(cY [41]::rest)):=by
   cases ks with
   | nil=>exact eI (.inl rfl)
   | cons y r=>
    have e2:∃ q,aK (fJ ((y::r).map pcN))++(cY [41]::rest)=cY [44]::q:=by
     simp only [fJ,List.map_cons,List.flatMap_cons,List.cons_append,gW];exact⟨_,rfl⟩
    obtain⟨q,e2⟩:=e2;rw [e2];exact eI (.inr (.inr (.inl rfl)))
  rw [e];have hw:=hx.whole (by omega) hst;refine .up (h:=fun f=>(aS f 1 (aK (pcN x).e++(aK (fJ (ks.map pcN))++(cY [41]::rest)))).bindL fun e _ l=>iB f (a++[e]) l) (fun f=>?_) (.bindL hw (by simpa using ih));rw [jB,mH hx.1,hx.1.not (by decide)];rfl
theorem Lg {ts:List Tok} {e:Nd} {b:Bool} (h:Unit8 ts e b false) {ks:List Nd} (hk:∀ x∈ks,UnitAt 1 (aK (pcN x).e) (zN x) (oV x)) (hl:ks.length≤6):Unit8 (ts++aK (kU (ks.map pcN))) (hJ 15 (e::ks.map zN)) false false:=by
 obtain⟨h1,h2,h3,h4⟩:=h;refine⟨h1.app,by rw [mH h1];exact h2,by rw [mH h1];exact h3,fun rest res hn ht=>?_⟩;rw [List.append_assoc];refine h4 _ res (fun h=>by cases h) ?_;have ha:=EO (a:=[e]) (rest:=rest) ks hk (by simp;omega);refine .up (h:=fun f=>(jB f [e] (aK (mM (ks.map pcN))++(cY [41]::rest))).bind fun _ ks l=>fB f (hJ 15 ks) false l) (fun f=>?_) (.lbind ha ht);unfold kU;rw [gW,aZ,List.cons_append,fB,fM,fM,fM,if_neg (by decide),if_neg (by decide),if_pos (by decide),List.append_assoc];rfl
theorem Lh {ts:List Tok} {e:Nd} {b nc:Bool} (h:Unit8 ts e b nc) (s:ByteArray) {ks:List Nd} (hk:∀ x∈ks,UnitAt 1 (aK (pcN x).e) (zN x) (oV x)) (hl:ks.length≤6) :
  Unit8 (ts++(cY [46]::Bm s::aK (kU (ks.map pcN)))) (tN 16 s (e::ks.map zN)) false false:=by
 obtain⟨h1,h2,h3,h4⟩:=h;refine⟨h1.app,by rw [mH h1];exact h2,by rw [mH h1];exact h3,fun rest res hn ht=>?_⟩;rw [List.append_assoc];refine h4 _ res (fun _=>by rw [List.cons_append,fM];rfl) ?_;have ha:=EO (a:=[e]) (rest:=rest) ks hk (by simp;omega);refine .up (h:=fun f=>(jB f [e] (aK (mM (ks.map pcN))++(cY [41]::rest))).bind fun _ ks l=>fB f (tN 16 s ks) false l) (fun f=>?_) (.lbind ha ht);unfold kU;rw [gW,aZ,List.cons_append,fB,fM,if_pos (by decide)];show kF true (Bm s::(cY [40]::(aK (mM (ks.map pcN))++[cY [41]])++rest)) _=_;rw [EK,List.cons_append,fM,if_pos (by decide),List.append_assoc];rfl
end Go.Proofs.YtdnnmjhfidimcaaGreatDoor
