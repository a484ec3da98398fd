/- Steps of a region that draws, in few words. Places play no part in what is read. A right tree comes back from its tokens: expressions. -/
import Derived.Test.YtdnnmjhfidimcaaGreatDoorJoint2
import Derived.Deep.RegionHeld3
import Derived.KernelRfl
import Derived.Deep.Draws
import Derived.Test.YtdnnmjhfidimcaaGreatDoorJoint3
import Derived.Test.YtdnnmjhfidimcaaGreatDoorJoint9
namespace Go.Proofs.YtdnnmjhfidimcaaGreatDoor
open Go.RowKit
section
variable {P:Program} {md:Region.Mode} {ops:Array Oper} {Q:Exit→Act→World→Prop} {S:World→Prop}
theorem tk (i:Nat) {oi:Oper} {v:Value} {fuel:Nat} {listed:Array Bool} {a b:Act} {w:World}
  (hy:∀ w,S w→(execOp a.eval oi).run P w=.ok (.value v) w) (h:wpAnyH P md ops Q S fuel (listed.setIfInBounds i true) b w)
  (hi:ops[i]? = some oi:=by rfl) (hs:Region.noSelect ops=true:=by kernel_rfl) (hf:Region.free md ops listed i=true:=by kernel_rfl) (hr:(Region.ready md ops listed).contains i=true:=by kernel_rfl)
  (hQ:∀ c a w,Q (.panic c) (a.put oi.dst v) w→Q (.panic c) a w:=by exact fun _ _ _ h=>h) (hg:Region.wanted oi (yielded ops a.tmps)=true:=by rfl) (hS:S w:=by assumption)
  (hb:a.put oi.dst v=b:=by simp only [Act.put,List.setIfInBounds_toArray,List.set_cons_zero,List.set_cons_succ,List.getElem_toArray,List.getElem_cons_succ,List.getElem_cons_zero];rfl):wpAnyH P md ops Q S (fuel+1) listed a w:=
 wpAnyH_take hi hs hf hr hQ (Or.inl ⟨hg,hy⟩) hS (hb▸h)
theorem tkk (i:Nat) {oi:Oper} {v:Value} {fuel:Nat} {listed:Array Bool} {a b:Act} {w:World}
  (h:wpAnyH P md ops Q S fuel (listed.setIfInBounds i true) b w)
  (hi:ops[i]? = some oi:=by rfl) (hy:∀ w,S w→(execOp a.eval oi).run P w=.ok (.value v) w:=by intro w hSw;go_simp<;>(try with_reducible rfl)) (hs:Region.noSelect ops=true:=by kernel_rfl) (hf:Region.free md ops listed i=true:=by kernel_rfl) (hr:(Region.ready md ops listed).contains i=true:=by kernel_rfl)
  (hQ:∀ c a w,Q (.panic c) (a.put oi.dst v) w→Q (.panic c) a w:=by exact fun _ _ _ h=>h) (hg:Region.wanted oi (yielded ops a.tmps)=true:=by rfl) (hS:S w:=by assumption)
  (hb:a.put oi.dst v=b:=by simp only [Act.put,List.setIfInBounds_toArray,List.set_cons_zero,List.set_cons_succ,List.getElem_toArray,List.getElem_cons_succ,List.getElem_cons_zero];rfl):wpAnyH P md ops Q S (fuel+1) listed a w:=
 wpAnyH_take hi hs hf hr hQ (Or.inl ⟨hg,hy⟩) hS (hb▸h)
theorem tks (i:Nat) {oi:Oper} {fuel:Nat} {listed:Array Bool} {a b:Act} {w:World} (h:wpAnyH P md ops Q S fuel (listed.setIfInBounds i true) b w)
  (hi:ops[i]? = some oi:=by rfl) (hs:Region.noSelect ops=true:=by kernel_rfl) (hf:Region.free md ops listed i=true:=by kernel_rfl) (hr:(Region.ready md ops listed).contains i=true:=by kernel_rfl)
  (hQ:∀ c a w,Q (.panic c) (a.put oi.dst undef) w→Q (.panic c) a w:=by exact fun _ _ _ h=>h) (hg:Region.wanted oi (yielded ops a.tmps)=false:=by rfl) (hS:S w:=by assumption)
  (hb:a.put oi.dst undef=b:=by simp only [Act.put,List.setIfInBounds_toArray,List.set_cons_zero,List.set_cons_succ,List.getElem_toArray,List.getElem_cons_succ,List.getElem_cons_zero];rfl):wpAnyH P md ops Q S (fuel+1) listed a w:=
 wpAnyH_take hi hs hf hr hQ (Or.inr ⟨hg,rfl⟩) hS (hb▸h)
theorem rdy (i:Nat) {o:Oper} {fuel:Nat} {listed:Array Bool} {a:Act} {w:World}
  (h:∀ K':Act→World→Prop,Shut (∀ a w,S w→(S w→wpAnyH P md ops Q S fuel (listed.setIfInBounds i true) a w)→K' a w)→if Region.wanted o (yielded ops a.tmps)=true then Oper.wp P o a w K' Q else K' (a.put o.dst undef) w)
  (ho:ops[i]? = some o:=by rfl) (hr:Region.ready md ops listed=[i]:=by kernel_rfl):wpAnyH P md ops Q S (fuel+1) listed a w:=
 wpAnyH_ready hr (by simp) (AllReadyH.cons ho h AllReadyH.nil)
end
end Go.Proofs.YtdnnmjhfidimcaaGreatDoor

namespace Go.Proofs.YtdnnmjhfidimcaaGreatDoor
open Go.RowKit

def zt (t:Tok):Tok:=⟨t.kind,t.text,t.num,0⟩
mutual
def zN:Nd→Nd
 | .mk k o n s ns ks _=>.mk k o n s ns (zL ks) 0
def zL:List Nd→List Nd
 | []=>[]
 | x::r=>zN x::zL r
end
theorem lzx:∀ l:List Nd,zL l=l.map zN
 | []=>by rw [zL];rfl
 | x::r=>by rw [zL,lzx r];rfl
theorem Lzc (k o n:Int) (s:ByteArray) (ns:List ByteArray) (ks:List Nd) (p:Int):zN (.mk k o n s ns ks p)=.mk k o n s ns (ks.map zN) 0:=by rw [zN,lzx]
def PR.z:PR→PR
 | .ok t b l=>.ok (zN t) b (l.map zt)
 | .bad l=>.bad (l.map zt)
def PL.z:PL→PL
 | .ok ns ts l=>.ok ns (ts.map zN) (l.map zt)
 | .bad l=>.bad (l.map zt)

theorem nzt (t:Nd):(zN t).kind=t.kind:=by cases t;rw [zN];rfl
theorem mzx (t:Nd):(zN t).str=t.str:=by cases t;rw [zN];rfl
theorem Ozo (t:Nd):(zN t).kids=t.kids.map zN:=by cases t;rw [Lzc];rfl
theorem pzq (l:List Tok):cur (l.map zt)=zt (cur l):=by cases l<;>rfl
theorem Pzo (l:List Tok):(cur (l.map zt)).kind=(cur l).kind:=by rw [pzq];rfl
theorem szs (l:List Tok):(cur (l.map zt)).text=(cur l).text:=by rw [pzq];rfl
theorem GzA (l:List Tok):(cur (l.map zt)).num=(cur l).num:=by rw [pzq];rfl
theorem HzA (l:List Tok):(cur (l.map zt)).pl=0:=by rw [pzq];rfl
theorem Bzf (l:List Tok) (x:List UInt8):isH (l.map zt) x=isH l x:=by unfold isH;rw [pzq];rfl
theorem zzz (k:Bool) (l:List Tok):isW k (l.map zt)=isW k l:=by unfold isW;rw [Pzo]
theorem nze (l:List Tok):(l.map zt).tail=l.tail.map zt:=by cases l<;>rfl
theorem ozt:∀ (s:List (List UInt8×Int×Int)) (l:List Tok),Tzg s (l.map zt)=Tzg s l
 | [],_=>rfl
 | (x,k,o)::r,l=>by rw [Tzg,Tzg,Bzf,ozt r l]
theorem Jzy (r:Nat) (l:List Tok):kzf r (l.map zt)=kzf r l:=ozt _ l
theorem qzq:∀ (s:List Int) (l:List Tok),Czg s (l.map zt)=Czg s l
 | [],_=>rfl
 | o::r,l=>by rw [Czg,Czg,Bzf,qzq r l]
theorem nzx (l:List Tok):lzg (l.map zt)=lzg l:=qzq _ l

theorem PR.bind_z {x x':PR} {k k':Nd→Bool→List Tok→PR} (hx:x.z=x') (hk:∀ t b l,(k t b l).z=k' (zN t) b (l.map zt)):(x.bind k).z=x'.bind k':=by
 subst hx;cases x with
 | ok t b l=>exact hk t b l
 | bad l=>rfl
theorem PR.bindL_z {x x':PR} {k k':Nd→Bool→List Tok→PL} (hx:x.z=x') (hk:∀ t b l,(k t b l).z=k' (zN t) b (l.map zt)):(x.bindL k).z=x'.bindL k':=by
 subst hx;cases x with
 | ok t b l=>exact hk t b l
 | bad l=>rfl
theorem PL.bind_z {x x':PL} {k k':List ByteArray→List Nd→List Tok→PR} (hx:x.z=x') (hk:∀ t b l,(k t b l).z=k' t (b.map zN) (l.map zt)):(x.bind k).z=x'.bind k':=by
 subst hx;cases x with
 | ok t b l=>exact hk t b l
 | bad l=>rfl
theorem Szf {x:List UInt8} {l:List Tok} {k k':List Tok→PR} (hk:∀ l,(k l).z=k' (l.map zt)):(must x l k).z=must x (l.map zt) k':=by
 unfold must;rw [Bzf,nze];split
 ·exact hk _
 ·rfl
theorem yzl {x:List UInt8} {l:List Tok} {k k':List Tok→PL} (hk:∀ l,(k l).z=k' (l.map zt)):(mustL x l k).z=mustL x (l.map zt) k':=by
 unfold mustL;rw [Bzf,nze];split
 ·exact hk _
 ·rfl
theorem pzt {x:Bool} {l:List Tok} {k k':ByteArray→List Tok→PR} (hk:∀ s l,(k s l).z=k' s (l.map zt)):(Bze x l k).z=Bze x (l.map zt) k':=by
 unfold Bze;rw [zzz,nze,szs];split
 ·exact hk _ _
 ·rfl
theorem qzt {x:Bool} {l:List Tok} {k k':ByteArray→List Tok→PL} (hk:∀ s l,(k s l).z=k' s (l.map zt)):(wordL x l k).z=wordL x (l.map zt) k':=by
 unfold wordL;rw [zzz,nze,szs];split
 ·exact hk _ _
 ·rfl
theorem Tzd {c:Prop} [Decidable c] {a b a' b':PR} (h1:a.z=a') (h2:b.z=b'):(if c then a else b).z=if c then a' else b':=by split<;>assumption
theorem xzj {c:Prop} [Decidable c] {a b a' b':PL} (h1:a.z=a') (h2:b.z=b'):(if c then a else b).z=if c then a' else b':=by split<;>assumption
theorem xzg {t t':Nd} {b:Bool} {l:List Tok} (h:zN t=t'):(PR.ok t b l).z=.ok t' b (l.map zt):=by subst h;rfl
theorem rzq {ns:List ByteArray} {ts ts':List Nd} {l:List Tok} (h:ts.map zN=ts'):(PL.ok ns ts l).z=.ok ns ts' (l.map zt):=by subst h;rfl
theorem zK (k:Int) (ks:List Nd):zN (ndK k ks)=ndK k (ks.map zN):=Lzc _ _ _ _ _ _ _
theorem zO (k o:Int) (ks:List Nd):zN (ndO k o ks)=ndO k o (ks.map zN):=Lzc _ _ _ _ _ _ _
theorem zS (k:Int) (s:ByteArray) (ks:List Nd):zN (ndS k s ks)=ndS k s (ks.map zN):=Lzc _ _ _ _ _ _ _
theorem ozx (e v:Nd):zN (becomeN e v)=becomeN (zN e) (zN v):=by
 unfold becomeN;rw [nzt,mzx,Ozo];split
 ·rw [zS];simp
 split
 ·rw [zK];simp
 ·rw [Lzc];simp;cases e;rw [Lzc];rfl

theorem pzx:∀ (f:Nat) (ns:List ByteArray) (l:List Tok),(jzj f ns l).z=jzj f ns (l.map zt)
 | 0,_,_=>rfl
 | f+1,ns,l=>by
  rw [jzj,jzj];refine qzt fun s l=>?_
  rw [Bzf,nze];exact xzj (pzx f _ _) (yzl fun l=>rfl)
theorem Kzy (l:List Tok):(Tzh l).z=Tzh (l.map zt):=by
 unfold Tzh;rw [Bzf,nze];exact xzj rfl (pzx _ _ _)

structure Lzy (f:Nat):Prop where
 rank:∀ r l,(rza f r l).z=rza f r (l.map zt)
 more:∀ r e b l,(dzd f r e b l).z=dzd f r (zN e) b (l.map zt)
 post:∀ l,(Cze f l).z=Cze f (l.map zt)
 tail:∀ e b l,(Azc f e b l).z=Azc f (zN e) b (l.map zt)
 args:∀ ks l,(Zzd f ks l).z=Zzd f (ks.map zN) (l.map zt)
 argsM:∀ ks l,(Azd f ks l).z=Azd f (ks.map zN) (l.map zt)
 atom:∀ l,(vzd f l).z=vzd f (l.map zt)
 obj:∀ l,(bzj f l).z=bzj f (l.map zt)
 field:∀ ns ks l,(Dze f ns ks l).z=Dze f ns (ks.map zN) (l.map zt)
 objM:∀ ns ks l,(rzf f ns ks l).z=rzf f ns (ks.map zN) (l.map zt)
 block:∀ l,(Xzb f l).z=Xzb f (l.map zt)
 stmts:∀ ks l,(fzc f ks l).z=fzc f (ks.map zN) (l.map zt)
 ask:∀ l,(Mzf f l).z=Mzf f (l.map zt)
 stmt:∀ l,(Eze f l).z=Eze f (l.map zt)
 short:∀ l,(Jzd f l).z=Jzd f (l.map zt)

theorem dzA:Lzy 0:=by
 constructor<;>intros<;>simp only [rza,dzd,Cze,Azc,Zzd,Azd,vzd,bzj,Dze,rzf,Xzb,fzc,Mzf,Eze,Jzd]<;>rfl

theorem yzv {f:Nat} (H:Lzy f):Lzy (f+1) where
 rank r l:=by
  rw [rza,rza];simp only [Bzf,nze];refine Tzd (Tzd (PR.bind_z (H.rank _ _) fun e b l=>xzg (zO _ _ _)) (Tzd (PR.bind_z (H.rank _ _) fun e b l=>xzg (zO _ _ _)) (H.post _))) (PR.bind_z (H.rank _ _) fun e b l=>H.more _ _ _ _)
 more r e b l:=by
  rw [dzd,dzd,Jzy];cases kzf r l with
  | none=>rfl
  | some p=>
   obtain⟨k,o⟩:=p;simp only [nze];refine PR.bind_z (H.rank _ _) fun e' b l=>?_
   rw [H.more,zO];rfl
 post l:=by
  rw [Cze,Cze];exact PR.bind_z (H.atom _) fun e b l=>H.tail _ _ _
 tail e b l:=by
  rw [Azc,Azc];simp only [Bzf,nze];refine Tzd (pzt fun s l=>?_) (Tzd (PR.bind_z (H.rank _ _) fun i b l=>Szf fun l=>?_) (Tzd (PL.bind_z (H.args _ _) fun _ ks l=>?_) rfl))
  ·simp only [Bzf,nze];refine Tzd (PL.bind_z (H.args _ _) fun _ ks l=>?_) ?_
   ·rw [H.tail,zS]
   ·rw [H.tail,zS];rfl
  ·rw [H.tail,zK];rfl
  ·rw [H.tail,zK]
 args ks l:=by
  rw [Zzd,Zzd];simp only [Bzf,nze];refine xzj (rzq rfl) (PR.bindL_z (H.rank _ _) fun e b l=>?_);rw [H.argsM,List.map_append];rfl
 argsM ks l:=by
  rw [Azd,Azd];simp only [Bzf,nze,List.length_map];refine xzj (PR.bindL_z (H.rank _ _) fun e b l=>?_) (yzl fun l=>rzq rfl);rw [H.argsM,List.map_append];rfl
 atom l:=by
  rw [vzd,vzd];simp only [Bzf,nze,Pzo,szs,GzA,HzA,nzx];refine Tzd (xzg (Lzc _ _ _ _ _ _ _)) (Tzd (xzg (zS _ _ _)) (Tzd (xzg (Lzc _ _ _ _ _ _ _)) (Tzd (xzg (zK _ _)) (Tzd (xzg (Lzc _ _ _ _ _ _ _)) (Tzd (xzg (zK _ _)) (Tzd (xzg (zK _ _))
   (Tzd (PR.bind_z (H.rank _ _) fun e b l=>Szf fun l=>rfl) (Tzd (PL.bind_z (H.obj _) fun ns ks l=>xzg (Lzc _ _ _ _ _ _ _))
   (Tzd (Szf fun l'=>PL.bind_z (Kzy _) fun ns _ l'=>PR.bind_z (H.block _) fun b _ l'=>xzg ?_) ?_)))))))))
  ·rw [Lzc,Ozo]
  ·cases lzg l with
   | none=>rfl
   | some o=>
    exact Szf fun l=>PR.bind_z (H.rank _ _) fun e b l=>Tzd (Szf fun l=>PR.bind_z (H.rank _ _) fun e' b l=>Szf fun l=>xzg (zO _ _ _)) (Szf fun l=>xzg (zO _ _ _))
 obj l:=by
  rw [bzj,bzj];simp only [Bzf,nze];exact xzj (rzq rfl) (H.field _ _ _)
 field ns ks l:=by
  rw [Dze,Dze];refine qzt fun s l=>yzl fun l=>PR.bindL_z (H.rank _ _) fun e b l=>?_
  rw [H.objM,List.map_append];rfl
 objM ns ks l:=by
  rw [rzf,rzf];simp only [Bzf,nze,List.length_map];exact xzj (H.field _ _ _) (yzl fun l=>rzq rfl)
 block l:=by
  rw [Xzb,Xzb];exact Szf fun l=>PL.bind_z (H.stmts _ _) fun _ ks l=>Szf fun l=>xzg (zK _ _)
 stmts ks l:=by
  rw [fzc,fzc];simp only [Bzf,Pzo,List.length_map];refine xzj (PR.bindL_z (H.stmt _) fun e b l=>?_) (rzq rfl);rw [H.stmts,List.map_append];rfl
 ask l:=by
  rw [Mzf,Mzf];exact Szf fun l=>PR.bind_z (H.rank _ _) fun e b l=>Szf fun l=>rfl
 stmt l:=by
  rw [Eze,Eze];simp only [Bzf,nze];refine Tzd (PR.bind_z (H.ask _) fun e b l=>PR.bind_z (H.block _) fun y b l=>?_) (Tzd (PR.bind_z (H.ask _) fun e b l=>PR.bind_z (H.block _) fun y b l=>xzg (zK _ _)) (PR.bind_z (H.short _) fun e b l=>Szf fun l=>rfl));simp only [Bzf,nze];refine Tzd (PR.bind_z (H.block _) fun z b l=>xzg (zK _ _)) (xzg ?_);rw [zK];simp [zK]
 short l:=by
  rw [Jzd,Jzd];simp only [Bzf,nze,HzA];refine Tzd (pzt fun s l'=>Szf fun l'=>PR.bind_z (H.rank _ _) fun e b l'=>xzg (Lzc _ _ _ _ _ _ _)) (Tzd (PR.bind_z (H.rank _ _) fun e b l=>xzg (zK _ _)) (Tzd (PR.bind_z (H.rank _ _) fun e b l=>xzg (zK _ _))
   (Tzd (PR.bind_z (H.post _) fun e b l=>?_) (PR.bind_z (H.rank _ _) fun e b l=>?_))))
  ·simp only [nzt,mzx,Ozo];refine Tzd (xzg ?_) rfl;split
   ·rw [zS]
   ·rw [zK]
  ·simp only [Bzf,nze];exact Tzd (PR.bind_z (H.rank _ _) fun v b l=>xzg (ozx _ _)) (xzg (zK _ _))
theorem IzA:∀ f,Lzy f
 | 0=>dzA
 | f+1=>yzv (IzA f)

end Go.Proofs.YtdnnmjhfidimcaaGreatDoor

namespace Go.Proofs.YtdnnmjhfidimcaaGreatDoor
open Go.RowKit

def Ev {α:Type} (g:Nat→α) (res:α):Prop:=∃ f0,∀ f,f0≤f→g f=res
theorem Ev.const {α:Type} (a:α):Ev (fun _=>a) a:=⟨0,fun _ _=>rfl⟩
theorem Ev.up {α:Type} {g h:Nat→α} {res:α} (e:∀ f,g (f+1)=h f) (H:Ev h res):Ev g res:=by
 obtain⟨f0,h0⟩:=H;refine⟨f0+1,fun f hf=>?_⟩;obtain⟨f',rfl⟩:∃ f',f=f'+1:=⟨f - 1,by omega⟩
 rw [e];exact h0 f' (by omega)
theorem Ev.of {α:Type} {g h:Nat→α} {res:α} (e:∀ f,g f=h f) (H:Ev h res):Ev g res:=by
 obtain⟨f0,h0⟩:=H;exact⟨f0,fun f hf=>(e f).trans (h0 f hf)⟩
theorem Ev.bind {x:Nat→PR} {k:Nat→Nd→Bool→List Tok→PR} {t:Nd} {b:Bool} {l:List Tok} {res:PR} (hx:Ev x (.ok t b l)) (hk:Ev (fun f=>k f t b l) res):Ev (fun f=>(x f).bind (k f)) res:=by
 obtain⟨f1,h1⟩:=hx;obtain⟨f2,h2⟩:=hk;refine⟨max f1 f2,fun f hf=>?_⟩;show (x f).bind (k f)=res;rw [h1 f (by omega),PR.bind_ok];exact h2 f (by omega)
theorem Ev.bindL {x:Nat→PR} {k:Nat→Nd→Bool→List Tok→PL} {t:Nd} {b:Bool} {l:List Tok} {res:PL} (hx:Ev x (.ok t b l)) (hk:Ev (fun f=>k f t b l) res):Ev (fun f=>(x f).bindL (k f)) res:=by
 obtain⟨f1,h1⟩:=hx;obtain⟨f2,h2⟩:=hk;refine⟨max f1 f2,fun f hf=>?_⟩;show (x f).bindL (k f)=res;rw [h1 f (by omega),PR.bindL_ok];exact h2 f (by omega)
theorem Ev.lbind {x:Nat→PL} {k:Nat→List ByteArray→List Nd→List Tok→PR} {t:List ByteArray} {b:List Nd} {l:List Tok} {res:PR} (hx:Ev x (.ok t b l)) (hk:Ev (fun f=>k f t b l) res):Ev (fun f=>(x f).bind (k f)) res:=by
 obtain⟨f1,h1⟩:=hx;obtain⟨f2,h2⟩:=hk;refine⟨max f1 f2,fun f hf=>?_⟩;show (x f).bind (k f)=res;rw [h1 f (by omega),PL.bind_ok];exact h2 f (by omega)

/-! tokens that come -/
theorem ezA (x y:List UInt8):isT (sgT x) y=(x==y):=by simp [isT,sgT]
theorem fzA (x y:List UInt8):isT (kwT x) y=(x==y):=by simp [isT,kwT]
theorem gzA (s:ByteArray) (y:List UInt8):isT (nmT s) y=false:=by simp [isT,nmT]
theorem qzx (t:Tok) (l:List Tok) (x:List UInt8):isH (t::l) x=isT t x:=rfl
theorem Jzc (x y:List UInt8) (l:List Tok):isH (sgT x::l) y=(x==y):=ezA x y
theorem Uze (x y:List UInt8) (l:List Tok):isH (kwT x::l) y=(x==y):=fzA x y
theorem hzA (s:ByteArray) (y:List UInt8) (l:List Tok):isH (nmT s::l) y=false:=gzA s y
theorem Qzo {t:Tok} {x y:List UInt8} (h:isT t x=true) (hn:(x==y)=false):isT t y=false:=by
 unfold isT at h ⊢;rw [Bool.and_eq_true,beq_iff_eq] at h;rw [h.2,hn,Bool.and_false]
theorem izA (s:ByteArray) (y:List UInt8) (hy:eze y=false):isT (ppT s) y=false:=by
 unfold isT ppT;cases hk:eze s.data.toList with
 | false=>simp
 | true=>
  have:(s.data.toList==y)=false:=by
   rw [beq_eq_false_iff_ne];intro e;rw [e,hy] at hk;cases hk
  rw [this,Bool.and_false]
theorem Mze (x:List UInt8) (l:List Tok) (k:List Tok→PR):must x (sgT x::l) k=k l:=by unfold must;rw [Jzc,if_pos (by simp)];rfl
theorem Azi (x:List UInt8) (l:List Tok) (k:List Tok→PL):mustL x (sgT x::l) k=k l:=by unfold mustL;rw [Jzc,if_pos (by simp)];rfl
theorem szq (s:ByteArray) (l:List Tok) (k:ByteArray→List Tok→PR):Bze true (ppT s::l) k=k s l:=by
 unfold Bze;rw [if_pos (by unfold isW cur ppT;cases eze s.data.toList<;>rfl)];rfl
theorem tzq (s:ByteArray) (l:List Tok) (k:ByteArray→List Tok→PL):wordL true (ppT s::l) k=k s l:=by
 unfold wordL;rw [if_pos (by unfold isW cur ppT;cases eze s.data.toList<;>rfl)];rfl
theorem rzx (b:Bool) (s:ByteArray) (l:List Tok) (k:ByteArray→List Tok→PR):Bze b (nmT s::l) k=k s l:=by
 unfold Bze;rw [if_pos (by unfold isW;rfl)];rfl
theorem uzq (b:Bool) (s:ByteArray) (l:List Tok) (k:ByteArray→List Tok→PL):wordL b (nmT s::l) k=k s l:=by
 unfold wordL;rw [if_pos (by unfold isW;rfl)];rfl
theorem pzd (x:List UInt8) (r:List Pc):kza (sg x::r)=sgT x::kza r:=rfl
theorem gzj (x:List UInt8) (r:List Pc):kza (kw x::r)=kwT x::kza r:=rfl
theorem szx (s:ByteArray) (r:List Pc):kza (nm s::r)=nmT s::kza r:=rfl
theorem rzt (s:ByteArray) (r:List Pc):kza (pp s::r)=ppT s::kza r:=rfl
theorem pze (r:List Pc):kza (.bl::r)=kza r:=rfl
theorem nzg:kza []=[]:=rfl

/-! with which tokens an expression begins -/
def firstL:List (List UInt8):=[[40],[123],[45],[33],[110,117,108,108],[116,114,117,101],[102,97,108,115,101],[116,104,105,115],[102,110],
 [99,111,117,110,116],[107,101,121],[104,97,115],[112,114,111,116,111],[115,101,116,112,114,111,116,111],[108,101,110],[115,116,114]]
def Bzi (t:Tok):Bool:=t.kind==1||t.kind==3||t.kind==4||firstL.any (isT t)
theorem Gzk {t:Tok} (h:Bzi t=true) {x:List UInt8} (hx:firstL.contains x=false):isT t x=false:=by
 cases hq:isT t x with
 | false=>rfl
 | true=>
  exfalso;unfold Bzi at h;have hk:t.kind=2∨t.kind=5:=by
   unfold isT at hq;rw [Bool.and_eq_true,Bool.or_eq_true,beq_iff_eq,beq_iff_eq] at hq;exact hq.1
  have h1:(t.kind==1||t.kind==3||t.kind==4)=false:=by
   rcases hk with h | h<;>rw [h]<;>rfl
  rw [h1,Bool.false_or,List.any_eq_true] at h;obtain⟨y,hy,hty⟩:=h;have hne:(x==y)=false:=by
   rw [beq_eq_false_iff_ne];intro e;subst e;rw [List.contains_iff_mem.2 hy] at hx;cases hx
  rw [Qzo hq hne] at hty;cases hty
theorem Bzm {t:Tok} (h:Bzi t=true):t.kind≠6:=by
 intro e;unfold Bzi at h;have h0:∀ x,isT t x=false:=by intro x;unfold isT;rw [e];rfl
 have h2:firstL.any (isT t)=false:=by rw [List.any_eq_false];intro x _;rw [h0];decide
 rw [h2,e] at h;cases h
def Firsts (ts:List Tok):Prop:=∃ t r,ts=t::r∧Bzi t=true
theorem Firsts.app {a b:List Tok} (h:Firsts a):Firsts (a++b):=by
 obtain⟨t,r,e,h1⟩:=h;exact⟨t,r++b,by rw [e];rfl,h1⟩
theorem Firsts.not {l:List Tok} (h:Firsts l) {x:List UInt8} (hx:firstL.contains x=false):isH l x=false:=by
 obtain⟨t,r,rfl,h1⟩:=h;exact Gzk h1 hx
theorem Firsts.kind {l:List Tok} (h:Firsts l):(cur l).kind≠6:=by
 obtain⟨t,r,rfl,h1⟩:=h;exact Bzm h1

/-! units: tokens of which a node comes, whatever stands behind them -/
def tzs (l:List Tok):Prop:=isH l [46]=false∧isH l [91]=false∧isH l [40]=false
def Stop (r:Nat) (l:List Tok):Prop:=tzs l∧∀ r',r≤r'→kzf r' l=none
theorem Stop.up {r r':Nat} {l:List Tok} (h:Stop r l) (hr:r≤r'):Stop r' l:=⟨h.1,fun q hq=>h.2 q (by omega)⟩
def Unit8 (ts:List Tok) (e:Nd) (b nc:Bool):Prop:=
 Firsts ts∧isH ts [45]=false∧isH ts [33]=false∧∀ rest res,(nc=true→isH rest [40]=false)→Ev (fun f=>Azc f e b rest) res→Ev (fun f=>Cze f (ts++rest)) res
def UnitAt (r:Nat) (ts:List Tok) (e:Nd) (b:Bool):Prop:=
 Firsts ts∧if r≤6 then ∀ rest res,Stop (r+1) rest→Ev (fun f=>dzd f r e b rest) res→Ev (fun f=>rza f r (ts++rest)) res
  else ∀ rest,tzs rest→Ev (fun f=>rza f 7 (ts++rest)) (.ok e b rest)
theorem zzv {r:Nat} {e:Nd} {b:Bool} {l:List Tok} (h:kzf r l=none):Ev (fun f=>dzd f r e b l) (.ok e b l):=
 .up (h:=fun _=>.ok e b l) (fun f=>by rw [dzd,h]) (.const _)
theorem Ozn {e:Nd} {b:Bool} {l:List Tok} (h:tzs l):Ev (fun f=>Azc f e b l) (.ok e b l):=
 .up (h:=fun _=>.ok e b l) (fun f=>by rw [Azc,h.1,h.2.1,h.2.2];rfl) (.const _)
theorem Czf {ts rest:List Tok} (h:Firsts ts) (x:List UInt8):isH (ts++rest) x=isH ts x:=by
 obtain⟨t,r,rfl,_⟩:=h;rfl
theorem Unit8.at7 {ts:List Tok} {e:Nd} {b nc:Bool} (h:Unit8 ts e b nc):UnitAt 7 ts e b:=by
 obtain⟨h1,h2,h3,h4⟩:=h;refine⟨h1,?_⟩;rw [if_neg (by omega)];intro rest hr;refine .up (h:=fun f=>Cze f (ts++rest)) (fun f=>?_) (h4 rest _ (fun _=>hr.2.2) (Ozn hr));rw [rza,if_pos (by omega),Czf h1,Czf h1,h2,h3];rfl
theorem UnitAt.whole {r:Nat} {ts:List Tok} {e:Nd} {b:Bool} (h:UnitAt r ts e b) (hr7:r≤7) {rest:List Tok} (hr:Stop r rest):Ev (fun f=>rza f r (ts++rest)) (.ok e b rest):=by
 obtain⟨h1,h2⟩:=h;by_cases h6:r≤6
 ·rw [if_pos h6] at h2;exact h2 rest _ (hr.up (by omega)) (zzv (hr.2 r (Nat.le_refl _)))
 ·rw [if_neg h6] at h2;have:r=7:=by omega
  subst this;exact h2 rest hr.1
theorem UnitAt.down1 {r:Nat} {ts:List Tok} {e:Nd} {b:Bool} (h:UnitAt (r+1) ts e b) (hr:r≤6):UnitAt r ts e b:=by
 refine⟨h.1,?_⟩;rw [if_pos hr];intro rest res hs hm;have hw:=h.whole (by omega) hs;refine .up (h:=fun f=>(rza f (r+1) (ts++rest)).bind fun e b l=>dzd f r e b l) (fun f=>by rw [rza,if_neg (by omega)]) ?_;exact .bind hw hm
theorem UnitAt.down {ts:List Tok} {e:Nd} {b:Bool} : ∀ (n r:Nat),r+n≤7→UnitAt (r+n) ts e b→UnitAt r ts e b
 | 0,_,_,h=>h
 | n+1,r,hr,h=>(UnitAt.down n (r+1) (by omega) (by rw [show r+1+n=r+(n+1) by omega];exact h)).down1 (by omega)
theorem UnitAt.to {q r:Nat} {ts:List Tok} {e:Nd} {b:Bool} (h:UnitAt q ts e b) (hq:q≤7) (hr:r≤q):UnitAt r ts e b:=
 .down (q - r) r (by omega) (by rw [show r+(q - r)=q by omega];exact h)
theorem jzc {c:UInt8} {l:List Tok} (h:c=41∨c=93∨c=44∨c=59∨c=125):Stop 1 (sgT [c]::l):=by
 have h0:∀ x:List UInt8,x≠[c]→isH (sgT [c]::l) x=false:=by
  intro x hx;rw [Jzc,beq_eq_false_iff_ne];exact fun e=>hx e.symm
 refine⟨?_,fun r' _=>?_⟩
 ·refine⟨h0 _ ?_,h0 _ ?_,h0 _ ?_⟩<;>(rcases h with rfl | rfl | rfl | rfl | rfl<;>decide)
 ·unfold kzf sgR;split<;>simp only [Tzg]<;>rcases h with rfl | rfl | rfl | rfl | rfl<;>simp [Jzc]

theorem ezk {ts:List Tok} {e:Nd} {b:Bool} (h:UnitAt 1 ts e b):Unit8 (sgT [40]::(ts++[sgT [41]])) e false false:=by
 refine⟨⟨_,_,rfl,by decide⟩,by rw [Jzc];rfl,by rw [Jzc];rfl,fun rest res _ ht=>?_⟩;have hw:=h.whole (by omega) (rest:=sgT [41]::rest) (jzc (.inl rfl));have ha:Ev (fun f=>vzd f (sgT [40]::(ts++[sgT [41]])++rest)) (.ok e false rest):=by
  refine .up (h:=fun f=>(rza f 1 (ts++(sgT [41]::rest))).bind fun e _ l=>must [41] l fun l=>.ok e false l) (fun f=>?_) (.bind hw ?_)
  ·rw [vzd];simp [cur,sgT,isH,isT]
  ·exact .of (fun f=>Mze _ _ _) (.const _)
 exact .up (h:=fun f=>(vzd f (sgT [40]::(ts++[sgT [41]])++rest)).bind fun e b l=>Azc f e b l) (fun f=>by rw [Cze]) (.bind ha ht)

theorem ozf {t:Tok} {e:Nd} {b nc:Bool} (hf:Bzi t=true) (h45:isT t [45]=false) (h33:isT t [33]=false) (h:∀ f rest,vzd (f+1) (t::rest)=.ok e b rest):Unit8 [t] e b nc:=by
 refine⟨⟨_,_,rfl,hf⟩,h45,h33,fun rest res _ ht=>?_⟩;refine .up (h:=fun f=>(vzd f (t::rest)).bind fun e b l=>Azc f e b l) (fun f=>by rw [List.cons_append,List.nil_append,Cze]) ?_;exact .bind (.up (h:=fun _=>.ok e b rest) (fun f=>h f rest) (.const _)) ht

def Nzg (x:Nd):Bool:=decide (x.kind=5∨x.kind=13∨x.kind=14)
def azd (x:Nd):Nat:=(rankT x.kind x.op).toNat
def BackE (x:Nd):Prop:=
 UnitAt (min 7 (azd x)) (kza (pcN x).e) (zN x) (Nzg x)∧(8≤azd x→Unit8 (kza (pcN x).e) (zN x) (Nzg x) (decide (x.kind=13)))
theorem Gzd {x:Nd} (h:Unit8 (kza (pcN x).e) (zN x) (Nzg x) (decide (x.kind=13))) (hr:7≤azd x):BackE x:=
 ⟨by rw [Nat.min_eq_left hr];exact h.at7,fun _=>h⟩
theorem zzl {x:Nd} (hr:azd x≤7) (h:UnitAt (azd x) (kza (pcN x).e) (zN x) (Nzg x)):BackE x:=
 ⟨by rw [Nat.min_eq_right hr];exact h,fun h8=>by omega⟩
theorem wzc {x:Nd} (h:Rt 1 x):1≤azd x:=by
 cases h<;>first | (simp only [azd,Nd.kind,Nd.op];decide) | (rename_i ho _ _;simp only [azd,Nd.kind,Nd.op,rankT];grind) | skip
theorem vzq (x:Nd):(pcN x).rank=rankT x.kind x.op:=by obtain⟨k,o,n,s,ns,ks,p⟩:=x;rw [izb];rfl
theorem tzx (x:Nd):(pcN x).kind=x.kind:=by obtain⟨k,o,n,s,ns,ks,p⟩:=x;rw [izb];rfl
theorem BackE.one {x:Nd} (h:BackE x) (hp:1≤azd x):UnitAt 1 (kza (pcN x).e) (zN x) (Nzg x):=h.1.to (by omega) (by omega)
theorem yzj {x:Nd} (h:BackE x) (hp:1≤azd x) {r:Nat} (hr:r≤7):∃ b,UnitAt r (kza (Fzd (pcN x) r)) (zN x) b:=by
 unfold Fzd;rw [vzq];by_cases hq:(r:Int)≤rankT x.kind x.op
 ·rw [if_pos hq];exact⟨_,h.1.to (by omega) (by unfold azd;omega)⟩
 ·rw [if_neg hq,pzd,Aza];exact⟨_,(ezk (h.one hp)).at7.to (by omega) hr⟩
theorem Zzg {x:Nd} (h:BackE x) (hp:1≤azd x) (r:Int) (hr:8≤r):∃ b,Unit8 (kza (Fzd (pcN x) r)) (zN x) b (decide (x.kind=13∧r≤rankT x.kind x.op)):=by
 unfold Fzd;rw [vzq];by_cases hq:r≤rankT x.kind x.op
 ·rw [if_pos hq];have h8:=h.2 (by unfold azd;omega);refine⟨Nzg x,?_⟩;rw [show decide (x.kind=13∧r≤rankT x.kind x.op)=decide (x.kind=13) by simp [hq]];exact h8
 ·rw [if_neg hq,pzd,Aza];refine⟨false,?_⟩;rw [show decide (x.kind=13∧r≤rankT x.kind x.op)=false by simp [hq]];exact ezk (h.one hp)

/-! expressions, kind by kind -/
theorem Pzn {o:Int} (h:1≤o∧o≤11) (l:List Tok):∃ r:Nat,rankT 10 o=r∧3≤r∧r≤6∧kzf r (sgT (signT o)::l)=some (10,o)∧Stop (r+1) (sgT (signT o)::l):=by
 obtain rfl | rfl | rfl | rfl | rfl | rfl | rfl | rfl | rfl | rfl | rfl:o=1∨o=2∨o=3∨o=4∨o=5∨o=6∨o=7∨o=8∨o=9∨o=10∨o=11:=by omega
 case' inl=>refine⟨5,?_⟩
 case' inr.inl=>refine⟨5,?_⟩
 case' inr.inr.inl=>refine⟨6,?_⟩
 case' inr.inr.inr.inl=>refine⟨6,?_⟩
 case' inr.inr.inr.inr.inl=>refine⟨6,?_⟩
 case' inr.inr.inr.inr.inr.inl=>refine⟨4,?_⟩
 case' inr.inr.inr.inr.inr.inr.inl=>refine⟨4,?_⟩
 case' inr.inr.inr.inr.inr.inr.inr.inl=>refine⟨4,?_⟩
 case' inr.inr.inr.inr.inr.inr.inr.inr.inl=>refine⟨4,?_⟩
 case' inr.inr.inr.inr.inr.inr.inr.inr.inr.inl=>refine⟨3,?_⟩
 case' inr.inr.inr.inr.inr.inr.inr.inr.inr.inr=>refine⟨3,?_⟩
 all_goals
  refine⟨rfl,by omega,by omega,rfl,⟨rfl,rfl,rfl⟩,fun r' hr'=>?_⟩;unfold kzf sgR;split<;>first | omega | rfl
theorem uzx (l:List Tok):kzf 2 (sgT [38,38]::l)=some (11,0)∧Stop 3 (sgT [38,38]::l):=by
 refine⟨rfl,⟨rfl,rfl,rfl⟩,fun r' hr'=>?_⟩;unfold kzf sgR;split<;>first | omega | rfl
theorem Mzy (l:List Tok):kzf 1 (sgT [124,124]::l)=some (12,0)∧Stop 2 (sgT [124,124]::l):=by
 refine⟨rfl,⟨rfl,rfl,rfl⟩,fun r' hr'=>?_⟩;unfold kzf sgR;split<;>first | omega | rfl
theorem Rzo {r:Nat} (hr:r≤6) {k o:Int} {g:List UInt8} (hg:∀ l,kzf r (sgT g::l)=some (k,o)∧Stop (r+1) (sgT g::l)) {tx ty:List Tok} {ex ey:Nd} {bx b2:Bool} (hx:UnitAt r tx ex bx) (hy:UnitAt (r+1) ty ey b2) :
  UnitAt r (tx++(sgT g::ty)) (ndO k o [ex,ey]) false:=by
 refine⟨hx.1.app,?_⟩;rw [if_pos hr];intro rest res hs hm;have h1:=hx.2;rw [if_pos hr] at h1;have hw:=hy.whole (by omega) hs;have h2:=h1 (sgT g::(ty++rest)) res (hg _).2 (.up (h:=fun f=>(rza f (r+1) (ty++rest)).bind fun e' _ l=>dzd f r (ndO k o [ex,e']) false l) (fun f=>by rw [dzd,(hg _).1];rfl) (.bind hw hm));rw [List.append_assoc];exact h2
theorem Nzh {x y:Nd} {r:Nat} (hr1:1≤r) (hr:r≤6) {k o:Int} {g:List UInt8} (hg:∀ l,kzf r (sgT g::l)=some (k,o)∧Stop (r+1) (sgT g::l)) (hx:BackE x) (hy:BackE y) (px:1≤azd x) (py:1≤azd y) :
  UnitAt r (kza (Zze r g (pcN x) (pcN y))) (ndO k o [zN x,zN y]) false:=by
 obtain⟨bx,ux⟩:=yzj hx px (r:=r) (by omega);obtain⟨b2,uy⟩:=yzj hy py (r:=r+1) (by omega);have e:kza (Zze r g (pcN x) (pcN y))=kza (Fzd (pcN x) r)++(sgT g::kza (Fzd (pcN y) ((r+1:Nat):Int))):=by
  unfold Zze;rw [Aza,pze,pzd,pze];rfl
 rw [e];exact Rzo hr hg ux uy

theorem vzx {ts:List Tok} {e:Nd} {b nc:Bool} (h:Unit8 ts e b nc) (s:ByteArray):Unit8 (ts++[sgT [46],ppT s]) (ndS 13 s [e]) true true:=by
 obtain⟨h1,h2,h3,h4⟩:=h;refine⟨h1.app,by rw [Czf h1];exact h2,by rw [Czf h1];exact h3,fun rest res hn ht=>?_⟩;rw [List.append_assoc];refine h4 _ res (fun _=>by rw [List.cons_append,Jzc];rfl) ?_;refine .up (h:=fun f=>Azc f (ndS 13 s [e]) true rest) (fun f=>?_) ht;rw [List.cons_append,Azc,Jzc,if_pos (by decide)];show Bze true (ppT s::rest) _=_;rw [szq,hn rfl];rfl
theorem uzs {ts ti:List Tok} {e i:Nd} {b nc bi nd:Bool} (h:Unit8 ts e b nc) (hi:UnitAt 1 ti i bi):Unit8 (ts++(sgT [91]::(ti++[sgT [93]]))) (ndK 14 [e,i]) true nd:=by
 obtain⟨h1,h2,h3,h4⟩:=h;refine⟨h1.app,by rw [Czf h1];exact h2,by rw [Czf h1];exact h3,fun rest res hn ht=>?_⟩;rw [List.append_assoc];refine h4 _ res (fun _=>by rw [List.cons_append,Jzc];rfl) ?_;have hw:=hi.whole (by omega) (rest:=sgT [93]::rest) (jzc (.inr (.inl rfl)));refine .up (h:=fun f=>(rza f 1 (ti++(sgT [93]::rest))).bind fun i _ l=>must [93] l fun l=>Azc f (ndK 14 [e,i]) true l) (fun f=>?_) (.bind hw (.of (fun f=>Mze _ _ _) ht));rw [List.cons_append,Azc,Jzc,Jzc,if_neg (by decide),if_pos (by decide)];rw [List.append_assoc];rfl
theorem Qzn {rest:List Tok} : ∀ (ks:List Nd) (acc:List Nd),(∀ x∈ks,UnitAt 1 (kza (pcN x).e) (zN x) (Nzg x))→acc.length+ks.length≤7→
  Ev (fun f=>Azd f acc (kza (Hzc (ks.map pcN))++(sgT [41]::rest))) (.ok [] (acc++ks.map zN) rest)
 | [],acc,_,_=>by
  refine .up (h:=fun _=>.ok [] acc rest) (fun f=>?_) (by simpa using Ev.const (PL.ok [] acc rest));rw [Azd];have:isH (kza (Hzc (([]:List Nd).map pcN))++(sgT [41]::rest)) [44]=false:=rfl;rw [this,if_neg (by simp)];exact Azi _ _ _
 | x::ks,acc,h,hl=>by
  have hx:=h x (by simp);have ih:=Qzn (rest:=rest) ks (acc++[zN x]) (fun y hy=>h y (by simp [hy])) (by simp at hl ⊢;omega);have e:kza (Hzc ((x::ks).map pcN))++(sgT [41]::rest)=sgT [44]::(kza (pcN x).e++(kza (Hzc (ks.map pcN))++(sgT [41]::rest))):=by
   simp only [Hzc,List.map_cons,List.flatMap_cons,Aza,List.cons_append,pzd,pze,List.append_assoc]
  have hst:Stop 1 (kza (Hzc (ks.map pcN))++(sgT [41]::rest)):=by
   cases ks with
   | nil=>exact jzc (.inl rfl)
   | cons y r=>
    have e2:∃ q,kza (Hzc ((y::r).map pcN))++(sgT [41]::rest)=sgT [44]::q:=by
     simp only [Hzc,List.map_cons,List.flatMap_cons,List.cons_append,pzd];exact⟨_,rfl⟩
    obtain⟨q,e2⟩:=e2;rw [e2];exact jzc (.inr (.inr (.inl rfl)))
  rw [e];have hw:=hx.whole (by omega) hst;refine .up (h:=fun f=>(rza f 1 (kza (pcN x).e++(kza (Hzc (ks.map pcN))++(sgT [41]::rest)))).bindL fun e _ l=>Azd f (acc++[e]) l) (fun f=>?_) (.bindL hw (by simpa using ih));rw [Azd,Jzc,if_pos ⟨by simp at hl;omega,by decide⟩];rfl
theorem wzq {a:List Nd} {rest:List Tok} (ks:List Nd) (h:∀ x∈ks,UnitAt 1 (kza (pcN x).e) (zN x) (Nzg x)) (hl:a.length+ks.length≤7) :
  Ev (fun f=>Zzd f a (kza (Gzf (ks.map pcN))++(sgT [41]::rest))) (.ok [] (a++ks.map zN) rest):=by
 cases ks with
 | nil=>
  refine .up (h:=fun _=>.ok [] a rest) (fun f=>?_) (by simpa using Ev.const (PL.ok [] a rest));rw [Zzd];have:isH (kza (Gzf (([]:List Nd).map pcN))++(sgT [41]::rest)) [41]=true:=rfl;rw [this,if_pos rfl];rfl
 | cons x ks=>
  have hx:=h x (by simp);have ih:=Qzn (rest:=rest) ks (a++[zN x]) (fun y hy=>h y (by simp [hy])) (by simp at hl ⊢;omega);have e:kza (Gzf ((x::ks).map pcN))++(sgT [41]::rest)=kza (pcN x).e++(kza (Hzc (ks.map pcN))++(sgT [41]::rest)):=by
   simp only [Gzf,List.map_cons,Aza,List.append_assoc]
  have hst:Stop 1 (kza (Hzc (ks.map pcN))++(sgT [41]::rest)):=by
   cases ks with
   | nil=>exact jzc (.inl rfl)
   | cons y r=>
    have e2:∃ q,kza (Hzc ((y::r).map pcN))++(sgT [41]::rest)=sgT [44]::q:=by
     simp only [Hzc,List.map_cons,List.flatMap_cons,List.cons_append,pzd];exact⟨_,rfl⟩
    obtain⟨q,e2⟩:=e2;rw [e2];exact jzc (.inr (.inr (.inl rfl)))
  rw [e];have hw:=hx.whole (by omega) hst;refine .up (h:=fun f=>(rza f 1 (kza (pcN x).e++(kza (Hzc (ks.map pcN))++(sgT [41]::rest)))).bindL fun e _ l=>Azd f (a++[e]) l) (fun f=>?_) (.bindL hw (by simpa using ih));rw [Zzd,Czf hx.1,hx.1.not (by decide)];rfl
theorem Azv {ts:List Tok} {e:Nd} {b:Bool} (h:Unit8 ts e b false) {ks:List Nd} (hk:∀ x∈ks,UnitAt 1 (kza (pcN x).e) (zN x) (Nzg x)) (hl:ks.length≤6):Unit8 (ts++kza (Qze (ks.map pcN))) (ndK 15 (e::ks.map zN)) false false:=by
 obtain⟨h1,h2,h3,h4⟩:=h;refine⟨h1.app,by rw [Czf h1];exact h2,by rw [Czf h1];exact h3,fun rest res hn ht=>?_⟩;rw [List.append_assoc];refine h4 _ res (fun h=>by cases h) ?_;have ha:=wzq (a:=[e]) (rest:=rest) ks hk (by simp;omega);refine .up (h:=fun f=>(Zzd f [e] (kza (Gzf (ks.map pcN))++(sgT [41]::rest))).bind fun _ ks l=>Azc f (ndK 15 ks) false l) (fun f=>?_) (.lbind ha ht);unfold Qze;rw [pzd,Aza,List.cons_append,Azc,Jzc,Jzc,Jzc,if_neg (by decide),if_neg (by decide),if_pos (by decide),List.append_assoc];rfl
theorem Bzv {ts:List Tok} {e:Nd} {b nc:Bool} (h:Unit8 ts e b nc) (s:ByteArray) {ks:List Nd} (hk:∀ x∈ks,UnitAt 1 (kza (pcN x).e) (zN x) (Nzg x)) (hl:ks.length≤6) :
  Unit8 (ts++(sgT [46]::ppT s::kza (Qze (ks.map pcN)))) (ndS 16 s (e::ks.map zN)) false false:=by
 obtain⟨h1,h2,h3,h4⟩:=h;refine⟨h1.app,by rw [Czf h1];exact h2,by rw [Czf h1];exact h3,fun rest res hn ht=>?_⟩;rw [List.append_assoc];refine h4 _ res (fun _=>by rw [List.cons_append,Jzc];rfl) ?_;have ha:=wzq (a:=[e]) (rest:=rest) ks hk (by simp;omega);refine .up (h:=fun f=>(Zzd f [e] (kza (Gzf (ks.map pcN))++(sgT [41]::rest))).bind fun _ ks l=>Azc f (ndS 16 s ks) false l) (fun f=>?_) (.lbind ha ht);unfold Qze;rw [pzd,Aza,List.cons_append,Azc,Jzc,if_pos (by decide)];show Bze true (ppT s::(sgT [40]::(kza (Gzf (ks.map pcN))++[sgT [41]])++rest)) _=_;rw [szq,List.cons_append,Jzc,if_pos (by decide),List.append_assoc];rfl

end Go.Proofs.YtdnnmjhfidimcaaGreatDoor
