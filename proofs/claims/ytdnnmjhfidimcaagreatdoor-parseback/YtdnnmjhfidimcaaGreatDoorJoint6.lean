/- Steps of a region that draws, in few words. Places play no part in what is read. -/
import Derived.Test.YtdnnmjhfidimcaaGreatDoorJoint1
import Derived.Deep.RegionHeld3
import Derived.KernelRfl
import Derived.Deep.Draws
import Derived.Test.YtdnnmjhfidimcaaGreatDoorJoint4
namespace Go.Proofs.YtdnnmjhfidimcaaGreatDoor
open Go.RowKit
section
variable {P:Program} {md:Region.Mode} {ops:Array Oper} {Q:Exit→Act→World→Prop} {S:World→Prop}
theorem tk (i:Nat) {oi:Oper} {v:Value} {fuel:Nat} {listed:Array Bool} {a b:Act} {w:World}
  (hy:∀ w,S w→(execOp a.eval oi).run P w=.ok (.value v) w) (h:wpAnyH P md ops Q S fuel (listed.setIfInBounds i true) b w)
  (hi:ops[i]? = some oi:=by rfl) (hs:Region.noSelect ops=true:=by kernel_rfl) (hf:Region.free md ops listed i=true:=by kernel_rfl) (hr:(Region.ready md ops listed).contains i=true:=by kernel_rfl)
  (hQ:∀ c a w,Q (.panic c) (a.put oi.dst v) w→Q (.panic c) a w:=by exact fun _ _ _ h=>h) (hg:Region.wanted oi (yielded ops a.tmps)=true:=by rfl) (hS:S w:=by assumption)
  (hb:a.put oi.dst v=b:=by simp only [Act.put,List.setIfInBounds_toArray,List.set_cons_zero,List.set_cons_succ,List.getElem_toArray,List.getElem_cons_succ,List.getElem_cons_zero];rfl):wpAnyH P md ops Q S (fuel+1) listed a w:=
 wpAnyH_take hi hs hf hr hQ (Or.inl ⟨hg,hy⟩) hS (hb▸h)
theorem Sw (i:Nat) {oi:Oper} {v:Value} {fuel:Nat} {listed:Array Bool} {a b:Act} {w:World}
  (h:wpAnyH P md ops Q S fuel (listed.setIfInBounds i true) b w)
  (hi:ops[i]? = some oi:=by rfl) (hy:∀ w,S w→(execOp a.eval oi).run P w=.ok (.value v) w:=by intro w hSw;go_simp<;>(try with_reducible rfl)) (hs:Region.noSelect ops=true:=by kernel_rfl) (hf:Region.free md ops listed i=true:=by kernel_rfl) (hr:(Region.ready md ops listed).contains i=true:=by kernel_rfl)
  (hQ:∀ c a w,Q (.panic c) (a.put oi.dst v) w→Q (.panic c) a w:=by exact fun _ _ _ h=>h) (hg:Region.wanted oi (yielded ops a.tmps)=true:=by rfl) (hS:S w:=by assumption)
  (hb:a.put oi.dst v=b:=by simp only [Act.put,List.setIfInBounds_toArray,List.set_cons_zero,List.set_cons_succ,List.getElem_toArray,List.getElem_cons_succ,List.getElem_cons_zero];rfl):wpAnyH P md ops Q S (fuel+1) listed a w:=
 wpAnyH_take hi hs hf hr hQ (Or.inl ⟨hg,hy⟩) hS (hb▸h)
theorem SJ (i:Nat) {oi:Oper} {fuel:Nat} {listed:Array Bool} {a b:Act} {w:World} (h:wpAnyH P md ops Q S fuel (listed.setIfInBounds i true) b w)
  (hi:ops[i]? = some oi:=by rfl) (hs:Region.noSelect ops=true:=by kernel_rfl) (hf:Region.free md ops listed i=true:=by kernel_rfl) (hr:(Region.ready md ops listed).contains i=true:=by kernel_rfl)
  (hQ:∀ c a w,Q (.panic c) (a.put oi.dst undef) w→Q (.panic c) a w:=by exact fun _ _ _ h=>h) (hg:Region.wanted oi (yielded ops a.tmps)=false:=by rfl) (hS:S w:=by assumption)
  (hb:a.put oi.dst undef=b:=by simp only [Act.put,List.setIfInBounds_toArray,List.set_cons_zero,List.set_cons_succ,List.getElem_toArray,List.getElem_cons_succ,List.getElem_cons_zero];rfl):wpAnyH P md ops Q S (fuel+1) listed a w:=
 wpAnyH_take hi hs hf hr hQ (Or.inr ⟨hg,rfl⟩) hS (hb▸h)
theorem jG (i:Nat) {o:Oper} {fuel:Nat} {listed:Array Bool} {a:Act} {w:World}
  (h:∀ K':Act→World→Prop,Shut (∀ a w,S w→(S w→wpAnyH P md ops Q S fuel (listed.setIfInBounds i true) a w)→K' a w)→if Region.wanted o (yielded ops a.tmps)=true then Oper.wp P o a w K' Q else K' (a.put o.dst undef) w)
  (ho:ops[i]? = some o:=by rfl) (hr:Region.ready md ops listed=[i]:=by kernel_rfl):wpAnyH P md ops Q S (fuel+1) listed a w:=
 wpAnyH_ready hr (by simp) (AllReadyH.cons ho h AllReadyH.nil)
end
def zt (t:Tok):Tok:=⟨t.kind,t.text,t.num,0⟩
mutual
def zN:Nd→Nd
 | .mk k o n s ns ks _=>.mk k o n s ns (zL ks) 0
def zL:List Nd→List Nd
 | []=>[]
 | x::r=>zN x::zL r
end
theorem OB:∀ l:List Nd,zL l=l.map zN
 | []=>by rw [zL];rfl
 | x::r=>by rw [zL,OB r];rfl
theorem gA (k o n:Int) (s:ByteArray) (ns:List ByteArray) (ks:List Nd) (p:Int):zN (.mk k o n s ns ks p)=.mk k o n s ns (ks.map zN) 0:=by rw [zN,OB]
def PR.z:PR→PR
 | .ok t b l=>.ok (zN t) b (l.map zt)
 | .bad l=>.bad (l.map zt)
def PL.z:PL→PL
 | .ok ns ts l=>.ok ns (ts.map zN) (l.map zt)
 | .bad l=>.bad (l.map zt)
theorem Kc (t:Nd):(zN t).kind=t.kind:=by cases t;rw [zN];rfl
theorem OC (t:Nd):(zN t).str=t.str:=by cases t;rw [zN];rfl
theorem Eh (t:Nd):(zN t).kids=t.kids.map zN:=by cases t;rw [gA];rfl
theorem FK (l:List Tok):cur (l.map zt)=zt (cur l):=by cases l<;>rfl
theorem Ei (l:List Tok):(cur (l.map zt)).kind=(cur l).kind:=by rw [FK];rfl
theorem IR (l:List Tok):(cur (l.map zt)).text=(cur l).text:=by rw [FK];rfl
theorem Sg (l:List Tok):(cur (l.map zt)).num=(cur l).num:=by rw [FK];rfl
theorem Si (l:List Tok):(cur (l.map zt)).pl=0:=by rw [FK];rfl
theorem nB (l:List Tok) (x:List UInt8):cD (l.map zt) x=cD l x:=by unfold cD;rw [FK];rfl
theorem QY (k:Bool) (l:List Tok):rF k (l.map zt)=rF k l:=by unfold rF;rw [Ei]
theorem kB (l:List Tok):(l.map zt).tail=l.tail.map zt:=by cases l<;>rfl
theorem Kd:∀ (s:List (List UInt8×Int×Int)) (l:List Tok),qD s (l.map zt)=qD s l
 | [],_=>rfl
 | (x,k,o)::r,l=>by rw [qD,qD,nB,Kd r l]
theorem Qg (r:Nat) (l:List Tok):mF r (l.map zt)=mF r l:=Kd _ l
theorem FL:∀ (s:List Int) (l:List Tok),pI s (l.map zt)=pI s l
 | [],_=>rfl
 | o::r,l=>by rw [pI,pI,nB,FL r l]
theorem OD (l:List Tok):oL (l.map zt)=oL l:=FL _ l
theorem PR.bind_z {x x':PR} {k k':Nd→Bool→List Tok→PR} (hx:x.z=x') (hk:∀ t b l,(k t b l).z=k' (zN t) b (l.map zt)):(x.bind k).z=x'.bind k':=by
 subst hx;cases x with
 | ok t b l=>exact hk t b l
 | bad l=>rfl
theorem PR.bindL_z {x x':PR} {k k':Nd→Bool→List Tok→PL} (hx:x.z=x') (hk:∀ t b l,(k t b l).z=k' (zN t) b (l.map zt)):(x.bindL k).z=x'.bindL k':=by
 subst hx;cases x with
 | ok t b l=>exact hk t b l
 | bad l=>rfl
theorem PL.bind_z {x x':PL} {k k':List ByteArray→List Nd→List Tok→PR} (hx:x.z=x') (hk:∀ t b l,(k t b l).z=k' t (b.map zN) (l.map zt)):(x.bind k).z=x'.bind k':=by
 subst hx;cases x with
 | ok t b l=>exact hk t b l
 | bad l=>rfl
theorem nT {x:List UInt8} {l:List Tok} {k k':List Tok→PR} (hk:∀ l,(k l).z=k' (l.map zt)):(must x l k).z=must x (l.map zt) k':=by
 unfold must;rw [nB,kB];split
 ·exact hk _
 ·rfl
theorem Au {x:List UInt8} {l:List Tok} {k k':List Tok→PL} (hk:∀ l,(k l).z=k' (l.map zt)):(mustL x l k).z=mustL x (l.map zt) k':=by
 unfold mustL;rw [nB,kB];split
 ·exact hk _
 ·rfl
theorem Ke {x:Bool} {l:List Tok} {k k':ByteArray→List Tok→PR} (hk:∀ s l,(k s l).z=k' s (l.map zt)):(kR x l k).z=kR x (l.map zt) k':=by
 unfold kR;rw [QY,kB,IR];split
 ·exact hk _ _
 ·rfl
theorem Kf {x:Bool} {l:List Tok} {k k':ByteArray→List Tok→PL} (hk:∀ s l,(k s l).z=k' s (l.map zt)):(wordL x l k).z=wordL x (l.map zt) k':=by
 unfold wordL;rw [QY,kB,IR];split
 ·exact hk _ _
 ·rfl
theorem jF {c:Prop} [Decidable c] {a b a' b':PR} (h1:a.z=a') (h2:b.z=b'):(if c then a else b).z=if c then a' else b':=by split<;>assumption
theorem vX {c:Prop} [Decidable c] {a b a' b':PL} (h1:a.z=a') (h2:b.z=b'):(if c then a else b).z=if c then a' else b':=by split<;>assumption
theorem oW {t t':Nd} {b:Bool} {l:List Tok} (h:zN t=t'):(PR.ok t b l).z=.ok t' b (l.map zt):=by subst h;rfl
theorem FM {ns:List ByteArray} {ts ts':List Nd} {l:List Tok} (h:ts.map zN=ts'):(PL.ok ns ts l).z=.ok ns ts' (l.map zt):=by subst h;rfl
theorem zK (k:Int) (ks:List Nd):zN (iH k ks)=iH k (ks.map zN):=gA _ _ _ _ _ _ _
theorem zO (k o:Int) (ks:List Nd):zN (gS k o ks)=gS k o (ks.map zN):=gA _ _ _ _ _ _ _
theorem zS (k:Int) (s:ByteArray) (ks:List Nd):zN (uU k s ks)=uU k s (ks.map zN):=gA _ _ _ _ _ _ _
theorem OE (e v:Nd):zN (becomeN e v)=becomeN (zN e) (zN v):=by
 unfold becomeN;rw [Kc,OC,Eh];split
 ·rw [zS];simp
 split
 ·rw [zK];simp
 ·rw [gA];simp;cases e;rw [gA];rfl
theorem OF:∀ (f:Nat) (ns:List ByteArray) (l:List Tok),(vI f ns l).z=vI f ns (l.map zt)
 | 0,_,_=>rfl
 | f+1,ns,l=>by
  rw [vI,vI];refine Kf fun s l=>?_
  rw [nB,kB];exact vX (OF f _ _) (Au fun l=>rfl)
theorem Qh (l:List Tok):(sG l).z=sG (l.map zt):=by
 unfold sG;rw [nB,kB];exact vX rfl (OF _ _ _)
structure Qi (f:Nat):Prop where
 rank:∀ r l,(aS f r l).z=aS f r (l.map zt)
 more:∀ r e b l,(gQ f r e b l).z=gQ f r (zN e) b (l.map zt)
 post:∀ l,(kS f l).z=kS f (l.map zt)
 tail:∀ e b l,(fN f e b l).z=fN f (zN e) b (l.map zt)
 args:∀ ks l,(jO f ks l).z=jO f (ks.map zN) (l.map zt)
 argsM:∀ ks l,(iL f ks l).z=iL f (ks.map zN) (l.map zt)
 atom:∀ l,(iG f l).z=iG f (l.map zt)
 obj:∀ l,(uV f l).z=uV f (l.map zt)
 field:∀ ns ks l,(kT f ns ks l).z=kT f ns (ks.map zN) (l.map zt)
 objM:∀ ns ks l,(mO f ns ks l).z=mO f ns (ks.map zN) (l.map zt)
 block:∀ l,(eC f l).z=eC f (l.map zt)
 stmts:∀ ks l,(eK f ks l).z=eK f (ks.map zN) (l.map zt)
 ask:∀ l,(nL f l).z=nL f (l.map zt)
 stmt:∀ l,(kU f l).z=kU f (l.map zt)
 short:∀ l,(iV f l).z=iV f (l.map zt)
theorem RE:Qi 0:=by
 constructor<;>intros<;>simp only [aS,gQ,kS,fN,jO,iL,iG,uV,kT,mO,eC,eK,nL,kU,iV]<;>rfl
theorem My {f:Nat} (H:Qi f):Qi (f+1) where
 rank r l:=by
  rw [aS,aS];simp only [nB,kB];refine jF (jF (PR.bind_z (H.rank _ _) fun e b l=>oW (zO _ _ _)) (jF (PR.bind_z (H.rank _ _) fun e b l=>oW (zO _ _ _)) (H.post _))) (PR.bind_z (H.rank _ _) fun e b l=>H.more _ _ _ _)
 more r e b l:=by
  rw [gQ,gQ,Qg];cases mF r l with
  | none=>rfl
  | some p=>
   obtain⟨k,o⟩:=p;simp only [kB];refine PR.bind_z (H.rank _ _) fun e' b l=>?_
   rw [H.more,zO];rfl
 post l:=by
  rw [kS,kS];exact PR.bind_z (H.atom _) fun e b l=>H.tail _ _ _
 tail e b l:=by
  rw [fN,fN];simp only [nB,kB];refine jF (Ke fun s l=>?_) (jF (PR.bind_z (H.rank _ _) fun i b l=>nT fun l=>?_) (jF (PL.bind_z (H.args _ _) fun _ ks l=>?_) rfl))
  ·simp only [nB,kB];refine jF (PL.bind_z (H.args _ _) fun _ ks l=>?_) ?_
   ·rw [H.tail,zS]
   ·rw [H.tail,zS];rfl
  ·rw [H.tail,zK];rfl
  ·rw [H.tail,zK]
 args ks l:=by
  rw [jO,jO];simp only [nB,kB];refine vX (FM rfl) (PR.bindL_z (H.rank _ _) fun e b l=>?_);rw [H.argsM,List.map_append];rfl
 argsM ks l:=by
  rw [iL,iL];simp only [nB,kB,List.length_map];refine vX (PR.bindL_z (H.rank _ _) fun e b l=>?_) (Au fun l=>FM rfl);rw [H.argsM,List.map_append];rfl
 atom l:=by
  rw [iG,iG];simp only [nB,kB,Ei,IR,Sg,Si,OD];refine jF (oW (gA _ _ _ _ _ _ _)) (jF (oW (zS _ _ _)) (jF (oW (gA _ _ _ _ _ _ _)) (jF (oW (zK _ _)) (jF (oW (gA _ _ _ _ _ _ _)) (jF (oW (zK _ _)) (jF (oW (zK _ _))
   (jF (PR.bind_z (H.rank _ _) fun e b l=>nT fun l=>rfl) (jF (PL.bind_z (H.obj _) fun ns ks l=>oW (gA _ _ _ _ _ _ _))
   (jF (nT fun l'=>PL.bind_z (Qh _) fun ns _ l'=>PR.bind_z (H.block _) fun b _ l'=>oW ?_) ?_)))))))))
  ·rw [gA,Eh]
  ·cases oL l with
   | none=>rfl
   | some o=>
    exact nT fun l=>PR.bind_z (H.rank _ _) fun e b l=>jF (nT fun l=>PR.bind_z (H.rank _ _) fun e' b l=>nT fun l=>oW (zO _ _ _)) (nT fun l=>oW (zO _ _ _))
 obj l:=by
  rw [uV,uV];simp only [nB,kB];exact vX (FM rfl) (H.field _ _ _)
 field ns ks l:=by
  rw [kT,kT];refine Kf fun s l=>Au fun l=>PR.bindL_z (H.rank _ _) fun e b l=>?_
  rw [H.objM,List.map_append];rfl
 objM ns ks l:=by
  rw [mO,mO];simp only [nB,kB,List.length_map];exact vX (H.field _ _ _) (Au fun l=>FM rfl)
 block l:=by
  rw [eC,eC];exact nT fun l=>PL.bind_z (H.stmts _ _) fun _ ks l=>nT fun l=>oW (zK _ _)
 stmts ks l:=by
  rw [eK,eK];simp only [nB,Ei,List.length_map];refine vX (PR.bindL_z (H.stmt _) fun e b l=>?_) (FM rfl);rw [H.stmts,List.map_append];rfl
 ask l:=by
  rw [nL,nL];exact nT fun l=>PR.bind_z (H.rank _ _) fun e b l=>nT fun l=>rfl
 stmt l:=by
  rw [kU,kU];simp only [nB,kB];refine jF (PR.bind_z (H.ask _) fun e b l=>PR.bind_z (H.block _) fun y b l=>?_) (jF (PR.bind_z (H.ask _) fun e b l=>PR.bind_z (H.block _) fun y b l=>oW (zK _ _)) (PR.bind_z (H.short _) fun e b l=>nT fun l=>rfl));simp only [nB,kB];refine jF (PR.bind_z (H.block _) fun z b l=>oW (zK _ _)) (oW ?_);rw [zK];simp [zK]
 short l:=by
  rw [iV,iV];simp only [nB,kB,Si];refine jF (Ke fun s l'=>nT fun l'=>PR.bind_z (H.rank _ _) fun e b l'=>oW (gA _ _ _ _ _ _ _)) (jF (PR.bind_z (H.rank _ _) fun e b l=>oW (zK _ _)) (jF (PR.bind_z (H.rank _ _) fun e b l=>oW (zK _ _))
   (jF (PR.bind_z (H.post _) fun e b l=>?_) (PR.bind_z (H.rank _ _) fun e b l=>?_))))
  ·simp only [Kc,OC,Eh];refine jF (oW ?_) rfl;split
   ·rw [zS]
   ·rw [zK]
  ·simp only [nB,kB];exact jF (PR.bind_z (H.rank _ _) fun v b l=>oW (OE _ _)) (oW (zK _ _))
theorem Sj:∀ f,Qi f
 | 0=>RE
 | f+1=>My (Sj f)
end Go.Proofs.YtdnnmjhfidimcaaGreatDoor
