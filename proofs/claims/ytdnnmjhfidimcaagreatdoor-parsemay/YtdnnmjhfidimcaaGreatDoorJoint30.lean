/- The pieces of a right tree stand well beside each other. Places play no part in what is read. A right tree comes back from its tokens: expressions. A right tree comes back from its tokens: atoms, statements, programs. Unlike programs have unlike texts. Pieces that stand well beside each other come back as their tokens. -/
import Derived.Test.YtdnnmjhfidimcaaGreatDoorJoint29
import Derived.Test.YtdnnmjhfidimcaaGreatDoorPsRight
import Derived.Test.YtdnnmjhfidimcaaGreatDoorJoint4
namespace Go.Proofs.YtdnnmjhfidimcaaGreatDoor
open Go.RowKit
def hdB (c:UInt8):Bool:=c != 61&&c != 47
def kX (l:List Pc):Prop:=gN l∧laid l≠[]∧cM hdB (laid l)
theorem Aw {p:UInt8→Bool} {a b:List UInt8} (h:cM p a) (hne:a≠[]):cM p (a++b):=by
 cases a with
 | nil=>exact absurd rfl hne
 | cons c r=>exact lS (h c r rfl)
theorem jK {p q:UInt8→Bool} {a:List UInt8} (h:cM p a) (hpq:∀ c,p c=true→q c=true):cM q a:=fun c r e=>hpq c (h c r e)
theorem Da {c:UInt8} (h:jQ c=true):hdB c=true:=by simp only [jQ,Bool.and_eq_true] at h;unfold hdB;rw [Bool.and_eq_true];exact h.2
theorem Ax:∀ {a b:List Pc},gN a→gN b→cM jQ (laid b)→gN (a++b)
 | [],b,_,hb,_=>hb
 | .bl::r,b,ha,hb,hs=>Ax (a:=r) ha hb hs
 | .tk t::r,b,ha,hb,hs=>by
  obtain⟨h1,h2,h3,h4⟩:=ha;refine⟨h1,h2,?_,Ax h4 hb hs⟩;show cM (sJ t) (laid (r++b));rw [cD];by_cases he:laid r=[]
  ·rw [he];exact jK hs fun c hc=>tI hc
  ·exact Aw h3 he
theorem gD {a b:List Pc} (ha:kX a) (hb:gN b) (hs:cM jQ (laid b)):kX (a++b):=by
 obtain⟨h1,h2,h3⟩:=ha;refine⟨Ax h1 hb hs,?_,?_⟩
 ·rw [cD];intro e;exact h2 (List.append_eq_nil_iff.1 e).1
 ·rw [cD];exact Aw h3 h2
theorem dZ {x:List UInt8} (hx:x∈sgnL) {b:List Pc} (hb:gN b) (hh:cM hdB (laid b)):gN (sg x::b):=by
 refine⟨by simp [cY,cP,hx],by simp [cY],?_,hb⟩;exact jK hh fun c hc=>by unfold sJ;rw [if_neg (by simp [cY]),if_pos (by simp [cY])];exact hc
theorem kC {x:List UInt8} (hx:jG x=true) {b:List Pc} (hb:gN b) (hh:cM jQ (laid b)):gN (kw x::b):=
 ⟨by simp [rH,cP,hx],by simp [rH],jK hh fun _ hc=>tI hc,hb⟩
theorem vQ {s:ByteArray} (hs:properB s=true) {b:List Pc} (hb:gN b) (hh:cM jQ (laid b)):gN (nm s::b):=
 ⟨by unfold properB at hs;simpa [CW,cP] using hs,by simp [CW],jK hh fun _ hc=>tI hc,hb⟩
theorem Db {s:ByteArray} (hs:dH s=true) {b:List Pc} (hb:gN b) (hh:cM jQ (laid b)):gN (pp s::b):=by
 refine⟨?_,?_,jK hh fun _ hc=>tI hc,hb⟩
 ·unfold dH at hs;unfold Bm cP;cases jG s.data.toList<;>simp_all
 ·unfold Bm;cases jG s.data.toList<;>simp
theorem fW {b:List Pc} (hb:gN b):gN (.bl::b):=hb
theorem fX:gN []:=trivial
theorem eR {p:UInt8→Bool} {c:UInt8} {x:List UInt8} {b:List Pc} (h:p c=true):cM p (laid (sg (c::x)::b)):=by
 rw [bI,gM];exact lS h
theorem fY {p:UInt8→Bool} {b:List Pc} (h:p 32=true):cM p (laid (.bl::b)):=by
 rw [bI];exact lS h
theorem kP {p:UInt8→Bool} {c:UInt8} {x:List UInt8} {b:List Pc} (h:p c=true):cM p (laid (kw (c::x)::b)):=by
 rw [bI,kB];exact lS h
theorem Ld {c:UInt8} (h:bW c.toNat=true):hdB c=true:=by
 have h1:c≠61:=by intro e;subst e;cases h
 have h2:c≠47:=by intro e;subst e;cases h
 simp [hdB,h1,h2]
theorem BY {s:List UInt8} {R:List UInt8} (h:nameB s=true):cM hdB (s++R):=by
 obtain⟨b,r,e,hl,_⟩:=uE h;rw [e];exact lS (Ld hl)
theorem nP {s:ByteArray} (h:properB s=true):dH s=true:=by unfold properB at h;rw [Bool.and_eq_true] at h;exact h.1
theorem Dc {s:ByteArray} {b:List Pc} (h:dH s=true):cM hdB (laid (nm s::b)):=by rw [bI,qT];exact BY h
theorem IJ {s:ByteArray} {b:List Pc} (h:dH s=true):cM hdB (laid (pp s::b)):=by rw [bI,yO];exact BY h
theorem EE {c:UInt8} {x:List UInt8} {b:List Pc} : laid (sg (c::x)::b)≠[]:=by rw [bI,gM];simp
theorem pZ {c:UInt8} {x:List UInt8} {b:List Pc} : laid (kw (c::x)::b)≠[]:=by rw [bI,kB];simp
theorem Pu {s:ByteArray} {b:List Pc} (h:dH s=true):laid (nm s::b)≠[]:=by
 obtain⟨c,r,e,_,_⟩:=uE h;rw [bI,qT,e];simp
theorem mX {x:Px} (h:kX x.e) (r:Int):kX (iG x r):=by
 unfold iG;split
 ·exact h
 ·have h2:=gD h (dZ (x:=[41]) (by decide) fX (eZ _)) (eR (by decide));exact⟨dZ (by decide) h2.1 h2.2.2,EE,eR (by decide)⟩
theorem xS {R:List Pc} (hR:gN R) (hs:cM jQ (laid R)):∀ {l:List Px},(∀ x∈l,kX x.e)→gN (fJ l++R)∧cM jQ (laid (fJ l++R))
 | [],_=>⟨hR,hs⟩
 | x::l,h=>by
  have ih:=xS hR hs (l:=l) (fun y hy=>h y (by simp [hy]));have hx:=gD (h x (by simp)) ih.1 ih.2;have e:fJ (x::l)++R=sg [44] :: .bl::(x.e++(fJ l++R)):=by simp [fJ]
  rw [e];exact⟨dZ (by decide) (fW hx.1) (fY (by decide)),eR (by decide)⟩
theorem wV {l:List Px} (h:∀ x∈l,kX x.e) {R:List Pc} (hR:gN R) (hs:cM hdB (laid R)):gN (kU l++R)∧cM jQ (laid (kU l++R)):=by
 have hc:gN (sg [41]::R):=dZ (by decide) hR hs;have e:kU l++R=sg [40]::(mM l++(sg [41]::R)):=by simp [kU]
 rw [e];refine⟨?_,eR (by decide)⟩;cases l with
 | nil=>exact dZ (by decide) hc (eR (by decide))
 | cons x l=>
  have ih:=xS hc (eR (by decide)) (l:=l) (fun y hy=>h y (by simp [hy]));have hx:=gD (h x (by simp)) ih.1 ih.2;have e:mM (x::l)++(sg [41]::R)=x.e++(fJ l++(sg [41]::R)):=by simp [mM]
  rw [e];exact dZ (by decide) hx.1 hx.2.2
theorem xT {R:List Pc} (hR:gN R) (hs:cM jQ (laid R)):∀ {ns:List ByteArray} {l:List Px},(∀ s∈ns,dH s=true)→(∀ x∈l,kX x.e)→gN (fK ns l++R)∧cM jQ (laid (fK ns l++R))
 | [],l,_,_=>by cases l<;>exact⟨hR,hs⟩
 | s::ns,[],_,_=>⟨hR,hs⟩
 | s::ns,x::l,hn,h=>by
  have ih:=xT hR hs (ns:=ns) (l:=l) (fun y hy=>hn y (by simp [hy])) (fun y hy=>h y (by simp [hy]));have hx:=gD (h x (by simp)) ih.1 ih.2;have e:fK (s::ns) (x::l)++R=sg [44] :: .bl::pp s::sg [58] :: .bl::(x.e++(fK ns l++R)):=by simp [fK,sF]
  rw [e];exact⟨dZ (by decide) (fW (Db (hn s (by simp)) (dZ (by decide) (fW hx.1) (fY (by decide))) (eR (by decide)))) (fY (by decide)),eR (by decide)⟩
theorem MV {ns:List ByteArray} {l:List Px} (hn:∀ s∈ns,dH s=true) (h:∀ x∈l,kX x.e):kX (wS ns l):=by
 have hc:gN [sg [125]]:=dZ (by decide) fX (eZ _);have h0:kX [sg [123],sg [125]]:=⟨dZ (by decide) hc (eR (by decide)),EE,eR (by decide)⟩
 cases ns with
 | nil=>exact h0
 | cons s ns=>
  cases l with
  | nil=>exact h0
  | cons x l=>
   have ih:=xT hc (eR (by decide)) (ns:=ns) (l:=l) (fun y hy=>hn y (by simp [hy])) (fun y hy=>h y (by simp [hy]));have hx:=gD (h x (by simp)) ih.1 ih.2;have e:wS (s::ns) (x::l)=sg [123]::pp s::sg [58] :: .bl::(x.e++(fK ns l++[sg [125]])):=by simp [wS,sF]
   rw [e];exact⟨dZ (by decide) (Db (hn s (by simp)) (dZ (by decide) (fW hx.1) (fY (by decide))) (eR (by decide))) (IJ (hn s (by simp))),EE,eR (by decide)⟩
theorem Ay {R:List Pc} (hR:gN R) (hs:cM jQ (laid R)):∀ {ns:List ByteArray},(∀ s∈ns,properB s=true)→gN (mE ns++R)∧cM jQ (laid (mE ns++R))
 | [],_=>⟨hR,hs⟩
 | s::ns,h=>by
  have ih:=Ay hR hs (ns:=ns) (fun y hy=>h y (by simp [hy]));have e:mE (s::ns)++R=sg [44] :: .bl::nm s::(mE ns++R):=by simp [mE]
  rw [e];exact⟨dZ (by decide) (fW (vQ (h s (by simp)) ih.1 ih.2)) (fY (by decide)),eR (by decide)⟩
theorem sK {R:List Pc} (hR:gN R) (hs:cM jQ (laid R)):∀ {l:List Px},(∀ x∈l,kX x.s)→gN (fC l++R)∧cM jQ (laid (fC l++R))
 | [],_=>⟨hR,hs⟩
 | x::l,h=>by
  have ih:=sK hR hs (l:=l) (fun y hy=>h y (by simp [hy]));have hx:=gD (h x (by simp)) ih.1 ih.2;have e:fC (x::l)++R=.bl::(x.s++(fC l++R)):=by simp [fC]
  rw [e];exact⟨fW hx.1,fY (by decide)⟩
theorem Az {l:List Px} (h:∀ x∈l,kX x.s) {R:List Pc} (hR:gN R) (hs:cM hdB (laid R)):gN (blockC l++R)∧cM jQ (laid (blockC l++R)):=by
 have hc:gN (sg [125]::R):=dZ (by decide) hR hs;cases l with
 | nil=>exact⟨dZ (by decide) hc (eR (by decide)),eR (by decide)⟩
 | cons x l=>
  have ih:=sK (R:=.bl::sg [125]::R) (fW hc) (fY (by decide)) h;have e:blockC (x::l)++R=sg [123]::(fC (x::l)++(.bl::sg [125]::R)):=by simp [blockC]
  rw [e];exact⟨dZ (by decide) ih.1 (jK ih.2 fun c hc=>Da hc),eR (by decide)⟩
theorem vR {x:Px} (h:kX x.e) {s:ByteArray} (hs:dH s=true) {R:List Pc} (hR:gN R) (hr:cM jQ (laid R)):kX (sG x s++R):=by
 have e:sG x s++R=iG x 8++(sg [46]::pp s::R):=by simp [sG]
 rw [e];exact gD (mX h 8) (dZ (by decide) (Db hs hR hr) (IJ hs)) (eR (by decide))
theorem uJ {x y:Px} (h:kX x.e) (hy:kX y.e) {R:List Pc} (hR:gN R) (hr:cM hdB (laid R)):kX (mF x y++R):=by
 have e:mF x y++R=iG x 8++(sg [91]::(y.e++(sg [93]::R))):=by simp [mF]
 have hc:gN (sg [93]::R):=dZ (by decide) hR hr;have h2:=gD hy hc (eR (by decide));rw [e];exact gD (mX h 8) (dZ (by decide) h2.1 h2.2.2) (eR (by decide))
theorem oE {x:Px} (h:kX x.e) {R:List Pc} (hR:gN R) (hr:cM jQ (laid R)):gN (gV x++R)∧cM jQ (laid (gV x++R)):=by
 have h2:=gD h hR hr;exact⟨fW (dZ (by decide) (fW h2.1) (fY (by decide))),fY (by decide)⟩
theorem qV {x y:Px} (h:kX x.e) (hy:kX y.e) {r:Int} {g:List UInt8} (hg:g∈sgnL):kX (lE r g x y):=by
 have h2:=mX hy (r+1);exact gD (mX h r) (fW (dZ hg (fW h2.1) (fY (by decide)))) (fY (by decide))
theorem OE {o:Int} (h:1≤o∧o≤11):signT o∈sgnL:=by
 obtain rfl | rfl | rfl | rfl | rfl | rfl | rfl | rfl | rfl | rfl | rfl:o=1∨o=2∨o=3∨o=4∨o=5∨o=6∨o=7∨o=8∨o=9∨o=10∨o=11:=by omega
 all_goals decide
theorem MW {o:Int} (h:1≤o∧o≤7):jG (builtT o).1=true∧∃ c r,(builtT o).1=c::r∧hdB c=true:=by
 obtain rfl | rfl | rfl | rfl | rfl | rfl | rfl:o=1∨o=2∨o=3∨o=4∨o=5∨o=6∨o=7:=by omega
 all_goals exact⟨by decide,_,_,rfl,by decide⟩
def EF (a:Nat) (t:Nd):Prop:=
 (a=1→kX (pcN t).e)∧(a=2→kX (pcN t).s)∧(a=3→∀ R,gN R→cM hdB (laid R)→gN ((pcN t).b++R)∧cM jQ (laid ((pcN t).b++R)))
theorem mN {t:Nd} (h:kX (pcN t).e):EF 1 t:=⟨fun _=>h,fun h=>(by cases h),fun h=>(by cases h)⟩
theorem sL {t:Nd} (h:kX (pcN t).s):EF 2 t:=⟨fun h=>(by cases h),fun _=>h,fun h=>(by cases h)⟩
theorem tJ {ks:List Nd} (h:∀ x∈ks,EF 1 x):∀ x∈ks.map pcN,kX x.e:=by
 intro x hx;obtain⟨y,hy,rfl⟩:=List.mem_map.1 hx;exact (h y hy).1 rfl
theorem uK {ks:List Nd} (h:∀ x∈ks,EF 2 x):∀ x∈ks.map pcN,kX x.s:=by
 intro x hx;obtain⟨y,hy,rfl⟩:=List.mem_map.1 hx;exact (h y hy).2.1 rfl
theorem oU:cM jQ (laid []):=eZ _
theorem close_semi:gN [sg [59]]∧cM jQ (laid [sg [59]]):=⟨dZ (by decide) fX (eZ _),eR (by decide)⟩
theorem IK {a:Nat} {t:Nd} (h:Rt a t):EF a t:=by
 induction h with
 | null p=>exact mN ⟨kC (by decide) fX oU,pZ,kP (by decide)⟩
 | bool n p hn=>
  rcases hn with rfl | rfl
  ·exact mN ⟨kC (x:=[102,97,108,115,101]) (by decide) fX oU,pZ (c:=102),kP (c:=102) (by decide)⟩
  ·exact mN ⟨kC (x:=[116,114,117,101]) (by decide) fX oU,pZ (c:=116),kP (c:=116) (by decide)⟩
 | int n p hn=>
  have hr:cP ⟨3,⟨(digs n).toArray⟩,n,0⟩=true:=by simp [cP,hn]
  have hf:gN [.tk ⟨3,⟨(digs n).toArray⟩,n,0⟩]:=⟨hr,by simp,eZ _,trivial⟩
  have hne:=CZ hr (by simp);have e:(pcN (.mk 3 0 n bz [] [] p)).e=[.tk ⟨3,⟨(digs n).toArray⟩,n,0⟩]:=by rw [cI];rfl
  refine mN ?_;rw [e];have hl:laid [.tk ⟨3,⟨(digs n).toArray⟩,n,0⟩]=digs n:=by simp [laid,Pc.text,eL]
  refine⟨hf,?_,?_⟩
  ·rw [hl];simpa [eL] using hne
  ·rw [hl];intro c r e;have hall:(digs n).all kS=true:=by unfold digs;rw [if_neg (by omega)];exact yK _ _
   have:=List.all_eq_true.1 hall c (by rw [e];simp);have h1:c≠61:=by intro e;subst e;cases this
   have h2:c≠47:=by intro e;subst e;cases this
   simp [hdB,h1,h2]
 | str s p hs=>
  have hr:cP ⟨4,s,0,0⟩=true:=by simp [cP,hs]
  have e:(pcN (.mk 4 0 0 s [] [] p)).e=[.tk ⟨4,s,0,0⟩]:=by rw [cI];rfl
  have hl:laid [.tk ⟨4,s,0,0⟩]=34::(jH s.data.toList++[34]):=by simp [laid,Pc.text,eL,kV]
  refine mN ?_;rw [e];exact⟨⟨hr,by simp,eZ _,trivial⟩,by rw [hl];simp,by rw [hl];exact lS (by decide)⟩
 | name s p hs=>exact mN ⟨vQ hs fX oU,Pu (nP hs),Dc (nP hs)⟩
 | this p=>exact mN ⟨kC (by decide) fX oU,pZ,kP (by decide)⟩
 | obj ns ks p hl hm hns hk ih=>
  refine mN ?_;rw [cI];exact MV hns (tJ ih)
 | fn ns ks p hm hns hc hk ih=>
  refine mN ?_;rw [cI];have hb:=Az (uK ih) fX (eZ _);rw [List.append_nil] at hb;have h2:gN (sg [41] :: .bl::blockC (ks.map pcN)):=dZ (by decide) (fW hb.1) (fY (by decide));show kX (kw [102,110]::sg [40]::(nO ns++(sg [41] :: .bl::blockC (ks.map pcN))));have h3:gN (nO ns++(sg [41] :: .bl::blockC (ks.map pcN)))∧cM hdB (laid (nO ns++(sg [41] :: .bl::blockC (ks.map pcN)))):=by
   cases ns with
   | nil=>exact⟨h2,eR (by decide)⟩
   | cons s r=>
    have h4:=Ay h2 (eR (by decide)) (ns:=r) (fun y hy=>hns y (by simp [hy]));exact⟨vQ (hns s (by simp)) h4.1 h4.2,Dc (nP (hns s (by simp)))⟩
  exact⟨kC (by decide) (dZ (by decide) h3.1 h3.2) (eR (by decide)),pZ,kP (by decide)⟩
 | un o x p ho hx ih=>
  refine mN ?_;rw [cI];have h2:=mX (ih.1 rfl) 7;rcases ho with rfl | rfl
  ·exact⟨dZ (x:=[45]) (by decide) h2.1 h2.2.2,EE (c:=45),eR (c:=45) (by decide)⟩
  ·exact⟨dZ (x:=[33]) (by decide) h2.1 h2.2.2,EE (c:=33),eR (c:=33) (by decide)⟩
 | bin o x y p ho hx hy ix iy=>
  refine mN ?_;rw [cI];exact qV (ix.1 rfl) (iy.1 rfl) (OE ho)
 | and x y p hx hy ix iy=>
  refine mN ?_;rw [cI];exact qV (ix.1 rfl) (iy.1 rfl) (by decide)
 | or x y p hx hy ix iy=>
  refine mN ?_;rw [cI];exact qV (ix.1 rfl) (iy.1 rfl) (by decide)
 | get s x p hs hx ix=>
  refine mN ?_;rw [cI];have:=vR (ix.1 rfl) hs fX oU;rw [List.append_nil] at this;exact this
 | index x y p hx hy ix iy=>
  refine mN ?_;rw [cI];have:=uJ (ix.1 rfl) (iy.1 rfl) fX (eZ _);rw [List.append_nil] at this;exact this
 | call x ks p hc hx hk ix ik=>
  refine mN ?_;rw [cI];have:=wV (tJ ik) fX (eZ _);rw [List.append_nil] at this;exact gD (mX (ix.1 rfl) _) this.1 this.2
 | meth s x ks p hs hc hx hk ix ik=>
  refine mN ?_;rw [cI];have:=wV (tJ ik) fX (eZ _);rw [List.append_nil] at this;exact vR (ix.1 rfl) hs this.1 this.2
 | built o ks p ho hc hk ik=>
  refine mN ?_;rw [cI];obtain⟨hb,c,r,e,hh⟩:=MW ho;have:=wV (tJ ik) fX (eZ _);rw [List.append_nil] at this;refine⟨kC hb this.1 this.2,?_,?_⟩
  ·show laid (kw (builtT o).1::_)≠[];rw [e];exact pZ
  ·show cM hdB (laid (kw (builtT o).1::_));rw [e];exact kP hh
 | slet s x p hs hx ix=>
  refine sL ?_;rw [cI];have:=oE (ix.1 rfl) close_semi.1 close_semi.2;exact⟨kC (x:=[108,101,116]) (by decide) (fW (vQ hs this.1 this.2)) (fY (by decide)),pZ (c:=108),kP (c:=108) (by decide)⟩
 | assign s x p hs hx ix=>
  refine sL ?_;rw [cI];have:=oE (ix.1 rfl) close_semi.1 close_semi.2;exact⟨vQ hs this.1 this.2,Pu (nP hs),Dc (nP hs)⟩
 | set s x y p hs hx hy ix iy=>
  refine sL ?_;rw [cI];have:=oE (iy.1 rfl) close_semi.1 close_semi.2;show kX (sG (pcN x) s++gV (pcN y)++[sg [59]]);rw [List.append_assoc];exact vR (ix.1 rfl) hs this.1 this.2
 | setix x y z p hx hy hz ix iy iz=>
  refine sL ?_;rw [cI];have:=oE (iz.1 rfl) close_semi.1 close_semi.2;show kX (mF (pcN x) (pcN y)++gV (pcN z)++[sg [59]]);rw [List.append_assoc];exact uJ (ix.1 rfl) (iy.1 rfl) this.1 (jK this.2 fun c hc=>Da hc)
 | del s x p hs hx ix=>
  refine sL ?_;rw [cI];have:=vR (ix.1 rfl) hs close_semi.1 close_semi.2;exact⟨kC (x:=[100,101,108,101,116,101]) (by decide) (fW this.1) (fY (by decide)),pZ (c:=100),kP (c:=100) (by decide)⟩
 | delix x y p hx hy ix iy=>
  refine sL ?_;rw [cI];have:=uJ (ix.1 rfl) (iy.1 rfl) close_semi.1 (jK close_semi.2 fun c hc=>Da hc);exact⟨kC (x:=[100,101,108,101,116,101]) (by decide) (fW this.1) (fY (by decide)),pZ (c:=100),kP (c:=100) (by decide)⟩
 | print x p hx ix=>
  refine sL ?_;rw [cI];have:=gD (ix.1 rfl) close_semi.1 close_semi.2;exact⟨kC (x:=[112,114,105,110,116]) (by decide) (fW this.1) (fY (by decide)),pZ (c:=112),kP (c:=112) (by decide)⟩
 | iff x y z p hx hy hz ix iy iz=>
  refine sL ?_;rw [cI];have key:∀ R,gN R→cM hdB (laid R)→kX (lI [105,102] (pcN x) (pcN y)++R):=by
   intro R hR hh;have hb:=iy.2.2 rfl R hR hh;have h2:=gD (ix.1 rfl) (b:=sg [41] :: .bl::((pcN y).b++R)) (dZ (by decide) (fW hb.1) (fY (by decide))) (eR (by decide));have e:lI [105,102] (pcN x) (pcN y)++R=kw [105,102] :: .bl::sg [40]::((pcN x).e++(sg [41] :: .bl::((pcN y).b++R))):=by simp [lI]
   rw [e];exact⟨kC (by decide) (fW (dZ (by decide) h2.1 h2.2.2)) (fY (by decide)),pZ,kP (by decide)⟩
  show kX (lI [105,102] (pcN x) (pcN y)++(if (pcN z).has then .bl::kw [101,108,115,101] :: .bl::(pcN z).b else []));split
  ·have hz:=iz.2.2 rfl [] fX (eZ _);rw [List.append_nil] at hz;exact key _ (fW (kC (by decide) (fW hz.1) (fY (by decide)))) (fY (by decide))
  ·exact key _ fX (eZ _)
 | whil x y p hx hy ix iy=>
  refine sL ?_;rw [cI];have hb:=iy.2.2 rfl [] fX (eZ _);rw [List.append_nil] at hb;have h2:=gD (ix.1 rfl) (b:=sg [41] :: .bl::(pcN y).b) (dZ (by decide) (fW hb.1) (fY (by decide))) (eR (by decide));exact⟨kC (x:=[119,104,105,108,101]) (by decide) (fW (dZ (by decide) h2.1 h2.2.2)) (fY (by decide)),pZ (c:=119),kP (c:=119) (by decide)⟩
 | ret x p hx ix=>
  refine sL ?_;rw [cI];have:=gD (ix.1 rfl) close_semi.1 close_semi.2;exact⟨kC (x:=[114,101,116,117,114,110]) (by decide) (fW this.1) (fY (by decide)),pZ (c:=114),kP (c:=114) (by decide)⟩
 | sexpr x p hx ix=>
  refine sL ?_;rw [cI];exact gD (ix.1 rfl) close_semi.1 close_semi.2
 | block ks p hc hk ik=>
  refine⟨fun h=>(by cases h),fun h=>(by cases h),fun _ R hR hh=>?_⟩;rw [cI];exact Az (uK ik) hR hh
theorem GU {t:Nd} (h:rightN t 3=true):gN (sI t):=by
 have hr:=DG t 3 (by simp) h;cases hr with
 | block ks p hc hk=>
  show gN (pY (ks.map pcN));cases ks with
  | nil=>exact fX
  | cons x r=>
   have hk':∀ x∈r.map pcN,kX x.s:=uK fun y hy=>IK (hk y (by simp [hy]))
   have h2:=sK fX oU hk';rw [List.append_nil] at h2;exact (gD ((IK (hk x (by simp))).2.1 rfl) h2.1 h2.2).1
def zt (t:Tok):Tok:=⟨t.kind,t.text,t.num,0⟩
mutual
def zN:Nd→Nd
 | .mk k o n s ns ks _=>.mk k o n s ns (zL ks) 0
def zL:List Nd→List Nd
 | []=>[]
 | x::r=>zN x::zL r
end
theorem MX:∀ l:List Nd,zL l=l.map zN
 | []=>by rw [zL];rfl
 | x::r=>by rw [zL,MX r];rfl
theorem fO (k o n:Int) (s:ByteArray) (ns:List ByteArray) (ks:List Nd) (p:Int):zN (.mk k o n s ns ks p)=.mk k o n s ns (ks.map zN) 0:=by rw [zN,MX]
def PR.z:PR→PR
 | .ok t b l=>.ok (zN t) b (l.map zt)
 | .bad l=>.bad (l.map zt)
def PL.z:PL→PL
 | .ok ns ts l=>.ok ns (ts.map zN) (l.map zt)
 | .bad l=>.bad (l.map zt)
theorem IL (t:Nd):(zN t).kind=t.kind:=by cases t;rw [zN];rfl
theorem MY (t:Nd):(zN t).str=t.str:=by cases t;rw [zN];rfl
theorem Dd (t:Nd):(zN t).kids=t.kids.map zN:=by cases t;rw [fO];rfl
theorem EG (l:List Tok):cur (l.map zt)=zt (cur l):=by cases l<;>rfl
theorem De (l:List Tok):(cur (l.map zt)).kind=(cur l).kind:=by rw [EG];rfl
theorem GV (l:List Tok):(cur (l.map zt)).text=(cur l).text:=by rw [EG];rfl
theorem QA (l:List Tok):(cur (l.map zt)).num=(cur l).num:=by rw [EG];rfl
theorem QB (l:List Tok):(cur (l.map zt)).pl=0:=by rw [EG];rfl
theorem mG (l:List Tok) (x:List UInt8):bZ (l.map zt) x=bZ l x:=by unfold bZ;rw [EG];rfl
theorem Pv (k:Bool) (l:List Tok):qC k (l.map zt)=qC k l:=by unfold qC;rw [De]
theorem jP (l:List Tok):(l.map zt).tail=l.tail.map zt:=by cases l<;>rfl
theorem IM:∀ (s:List (List UInt8×Int×Int)) (l:List Tok),pC s (l.map zt)=pC s l
 | [],_=>rfl
 | (x,k,o)::r,l=>by rw [pC,pC,mG,IM r l]
theorem OF (r:Nat) (l:List Tok):lP r (l.map zt)=lP r l:=IM _ l
theorem EI:∀ (s:List Int) (l:List Tok),oK s (l.map zt)=oK s l
 | [],_=>rfl
 | o::r,l=>by rw [oK,oK,mG,EI r l]
theorem MZ (l:List Tok):nS (l.map zt)=nS l:=EI _ l
theorem PR.bind_z {x x':PR} {k k':Nd→Bool→List Tok→PR} (hx:x.z=x') (hk:∀ t b l,(k t b l).z=k' (zN t) b (l.map zt)):(x.bind k).z=x'.bind k':=by
 subst hx;cases x with
 | ok t b l=>exact hk t b l
 | bad l=>rfl
theorem PR.bindL_z {x x':PR} {k k':Nd→Bool→List Tok→PL} (hx:x.z=x') (hk:∀ t b l,(k t b l).z=k' (zN t) b (l.map zt)):(x.bindL k).z=x'.bindL k':=by
 subst hx;cases x with
 | ok t b l=>exact hk t b l
 | bad l=>rfl
theorem PL.bind_z {x x':PL} {k k':List ByteArray→List Nd→List Tok→PR} (hx:x.z=x') (hk:∀ t b l,(k t b l).z=k' t (b.map zN) (l.map zt)):(x.bind k).z=x'.bind k':=by
 subst hx;cases x with
 | ok t b l=>exact hk t b l
 | bad l=>rfl
theorem mY {x:List UInt8} {l:List Tok} {k k':List Tok→PR} (hk:∀ l,(k l).z=k' (l.map zt)):(must x l k).z=must x (l.map zt) k':=by
 unfold must;rw [mG,jP];split
 ·exact hk _
 ·rfl
theorem yP {x:List UInt8} {l:List Tok} {k k':List Tok→PL} (hk:∀ l,(k l).z=k' (l.map zt)):(mustL x l k).z=mustL x (l.map zt) k':=by
 unfold mustL;rw [mG,jP];split
 ·exact hk _
 ·rfl
theorem IN {x:Bool} {l:List Tok} {k k':ByteArray→List Tok→PR} (hk:∀ s l,(k s l).z=k' s (l.map zt)):(kF x l k).z=kF x (l.map zt) k':=by
 unfold kF;rw [Pv,jP,GV];split
 ·exact hk _ _
 ·rfl
theorem IO {x:Bool} {l:List Tok} {k k':ByteArray→List Tok→PL} (hk:∀ s l,(k s l).z=k' s (l.map zt)):(wordL x l k).z=wordL x (l.map zt) k':=by
 unfold wordL;rw [Pv,jP,GV];split
 ·exact hk _ _
 ·rfl
theorem iU {c:Prop} [Decidable c] {a b a' b':PR} (h1:a.z=a') (h2:b.z=b'):(if c then a else b).z=if c then a' else b':=by split<;>assumption
theorem uL {c:Prop} [Decidable c] {a b a' b':PL} (h1:a.z=a') (h2:b.z=b'):(if c then a else b).z=if c then a' else b':=by split<;>assumption
theorem oF {t t':Nd} {b:Bool} {l:List Tok} (h:zN t=t'):(PR.ok t b l).z=.ok t' b (l.map zt):=by subst h;rfl
theorem EJ {ns:List ByteArray} {ts ts':List Nd} {l:List Tok} (h:ts.map zN=ts'):(PL.ok ns ts l).z=.ok ns ts' (l.map zt):=by subst h;rfl
theorem zK (k:Int) (ks:List Nd):zN (hJ k ks)=hJ k (ks.map zN):=fO _ _ _ _ _ _ _
theorem zO (k o:Int) (ks:List Nd):zN (gK k o ks)=gK k o (ks.map zN):=fO _ _ _ _ _ _ _
theorem zS (k:Int) (s:ByteArray) (ks:List Nd):zN (tN k s ks)=tN k s (ks.map zN):=fO _ _ _ _ _ _ _
theorem Na (e v:Nd):zN (becomeN e v)=becomeN (zN e) (zN v):=by
 unfold becomeN;rw [IL,MY,Dd];split
 ·rw [zS];simp
 split
 ·rw [zK];simp
 ·rw [fO];simp;cases e;rw [fO];rfl
theorem Nb:∀ (f:Nat) (ns:List ByteArray) (l:List Tok),(tX f ns l).z=tX f ns (l.map zt)
 | 0,_,_=>rfl
 | f+1,ns,l=>by
  rw [tX,tX];refine IO fun s l=>?_
  rw [mG,jP];exact uL (Nb f _ _) (yP fun l=>rfl)
theorem OG (l:List Tok):(rC l).z=rC (l.map zt):=by
 unfold rC;rw [mG,jP];exact uL rfl (Nb _ _ _)
structure OH (f:Nat):Prop where
 rank:∀ r l,(aS f r l).z=aS f r (l.map zt)
 more:∀ r e b l,(gI f r e b l).z=gI f r (zN e) b (l.map zt)
 post:∀ l,(kG f l).z=kG f (l.map zt)
 tail:∀ e b l,(fB f e b l).z=fB f (zN e) b (l.map zt)
 args:∀ ks l,(jB f ks l).z=jB f (ks.map zN) (l.map zt)
 argsM:∀ ks l,(iB f ks l).z=iB f (ks.map zN) (l.map zt)
 atom:∀ l,(hH f l).z=hH f (l.map zt)
 obj:∀ l,(tO f l).z=tO f (l.map zt)
 field:∀ ns ks l,(kH f ns ks l).z=kH f ns (ks.map zN) (l.map zt)
 objM:∀ ns ks l,(lW f ns ks l).z=lW f ns (ks.map zN) (l.map zt)
 block:∀ l,(dY f l).z=dY f (l.map zt)
 stmts:∀ ks l,(eG f ks l).z=eG f (ks.map zN) (l.map zt)
 ask:∀ l,(mS f l).z=mS f (l.map zt)
 stmt:∀ l,(kI f l).z=kI f (l.map zt)
 short:∀ l,(iK f l).z=iK f (l.map zt)
theorem Qf:OH 0:=by
 constructor<;>intros<;>simp only [aS,gI,kG,fB,jB,iB,hH,tO,kH,lW,dY,eG,mS,kI,iK]<;>rfl
theorem Le {f:Nat} (H:OH f):OH (f+1) where
 rank r l:=by
  rw [aS,aS];simp only [mG,jP];refine iU (iU (PR.bind_z (H.rank _ _) fun e b l=>oF (zO _ _ _)) (iU (PR.bind_z (H.rank _ _) fun e b l=>oF (zO _ _ _)) (H.post _))) (PR.bind_z (H.rank _ _) fun e b l=>H.more _ _ _ _)
 more r e b l:=by
  rw [gI,gI,OF];cases lP r l with
  | none=>rfl
  | some p=>
   obtain⟨k,o⟩:=p;simp only [jP];refine PR.bind_z (H.rank _ _) fun e' b l=>?_
   rw [H.more,zO];rfl
 post l:=by
  rw [kG,kG];exact PR.bind_z (H.atom _) fun e b l=>H.tail _ _ _
 tail e b l:=by
  rw [fB,fB];simp only [mG,jP];refine iU (IN fun s l=>?_) (iU (PR.bind_z (H.rank _ _) fun i b l=>mY fun l=>?_) (iU (PL.bind_z (H.args _ _) fun _ ks l=>?_) rfl))
  ·simp only [mG,jP];refine iU (PL.bind_z (H.args _ _) fun _ ks l=>?_) ?_
   ·rw [H.tail,zS]
   ·rw [H.tail,zS];rfl
  ·rw [H.tail,zK];rfl
  ·rw [H.tail,zK]
 args ks l:=by
  rw [jB,jB];simp only [mG,jP];refine uL (EJ rfl) (PR.bindL_z (H.rank _ _) fun e b l=>?_);rw [H.argsM,List.map_append];rfl
 argsM ks l:=by
  rw [iB,iB];simp only [mG,jP,List.length_map];refine uL (PR.bindL_z (H.rank _ _) fun e b l=>?_) (yP fun l=>EJ rfl);rw [H.argsM,List.map_append];rfl
 atom l:=by
  rw [hH,hH];simp only [mG,jP,De,GV,QA,QB,MZ];refine iU (oF (fO _ _ _ _ _ _ _)) (iU (oF (zS _ _ _)) (iU (oF (fO _ _ _ _ _ _ _)) (iU (oF (zK _ _)) (iU (oF (fO _ _ _ _ _ _ _)) (iU (oF (zK _ _)) (iU (oF (zK _ _))
   (iU (PR.bind_z (H.rank _ _) fun e b l=>mY fun l=>rfl) (iU (PL.bind_z (H.obj _) fun ns ks l=>oF (fO _ _ _ _ _ _ _))
   (iU (mY fun l'=>PL.bind_z (OG _) fun ns _ l'=>PR.bind_z (H.block _) fun b _ l'=>oF ?_) ?_)))))))))
  ·rw [fO,Dd]
  ·cases nS l with
   | none=>rfl
   | some o=>
    exact mY fun l=>PR.bind_z (H.rank _ _) fun e b l=>iU (mY fun l=>PR.bind_z (H.rank _ _) fun e' b l=>mY fun l=>oF (zO _ _ _)) (mY fun l=>oF (zO _ _ _))
 obj l:=by
  rw [tO,tO];simp only [mG,jP];exact uL (EJ rfl) (H.field _ _ _)
 field ns ks l:=by
  rw [kH,kH];refine IO fun s l=>yP fun l=>PR.bindL_z (H.rank _ _) fun e b l=>?_
  rw [H.objM,List.map_append];rfl
 objM ns ks l:=by
  rw [lW,lW];simp only [mG,jP,List.length_map];exact uL (H.field _ _ _) (yP fun l=>EJ rfl)
 block l:=by
  rw [dY,dY];exact mY fun l=>PL.bind_z (H.stmts _ _) fun _ ks l=>mY fun l=>oF (zK _ _)
 stmts ks l:=by
  rw [eG,eG];simp only [mG,De,List.length_map];refine uL (PR.bindL_z (H.stmt _) fun e b l=>?_) (EJ rfl);rw [H.stmts,List.map_append];rfl
 ask l:=by
  rw [mS,mS];exact mY fun l=>PR.bind_z (H.rank _ _) fun e b l=>mY fun l=>rfl
 stmt l:=by
  rw [kI,kI];simp only [mG,jP];refine iU (PR.bind_z (H.ask _) fun e b l=>PR.bind_z (H.block _) fun y b l=>?_) (iU (PR.bind_z (H.ask _) fun e b l=>PR.bind_z (H.block _) fun y b l=>oF (zK _ _)) (PR.bind_z (H.short _) fun e b l=>mY fun l=>rfl));simp only [mG,jP];refine iU (PR.bind_z (H.block _) fun z b l=>oF (zK _ _)) (oF ?_);rw [zK];simp [zK]
 short l:=by
  rw [iK,iK];simp only [mG,jP,QB];refine iU (IN fun s l'=>mY fun l'=>PR.bind_z (H.rank _ _) fun e b l'=>oF (fO _ _ _ _ _ _ _)) (iU (PR.bind_z (H.rank _ _) fun e b l=>oF (zK _ _)) (iU (PR.bind_z (H.rank _ _) fun e b l=>oF (zK _ _))
   (iU (PR.bind_z (H.post _) fun e b l=>?_) (PR.bind_z (H.rank _ _) fun e b l=>?_))))
  ·simp only [IL,MY,Dd];refine iU (oF ?_) rfl;split
   ·rw [zS]
   ·rw [zK]
  ·simp only [mG,jP];exact iU (PR.bind_z (H.rank _ _) fun v b l=>oF (Na _ _)) (oF (zK _ _))
theorem QC:∀ f,OH f
 | 0=>Qf
 | f+1=>Le (QC f)
def Ev {α:Type} (g:Nat→α) (res:α):Prop:=∃ f0,∀ f,f0≤f→g f=res
theorem Ev.const {α:Type} (a:α):Ev (fun _=>a) a:=⟨0,fun _ _=>rfl⟩
theorem Ev.up {α:Type} {g h:Nat→α} {res:α} (e:∀ f,g (f+1)=h f) (H:Ev h res):Ev g res:=by
 obtain⟨f0,h0⟩:=H;refine⟨f0+1,fun f hf=>?_⟩;obtain⟨f',rfl⟩:∃ f',f=f'+1:=⟨f - 1,by omega⟩
 rw [e];exact h0 f' (by omega)
theorem Ev.of {α:Type} {g h:Nat→α} {res:α} (e:∀ f,g f=h f) (H:Ev h res):Ev g res:=by
 obtain⟨f0,h0⟩:=H;exact⟨f0,fun f hf=>(e f).trans (h0 f hf)⟩
theorem Ev.bind {x:Nat→PR} {k:Nat→Nd→Bool→List Tok→PR} {t:Nd} {b:Bool} {l:List Tok} {res:PR} (hx:Ev x (.ok t b l)) (hk:Ev (fun f=>k f t b l) res):Ev (fun f=>(x f).bind (k f)) res:=by
 obtain⟨f1,h1⟩:=hx;obtain⟨f2,h2⟩:=hk;refine⟨max f1 f2,fun f hf=>?_⟩;show (x f).bind (k f)=res;rw [h1 f (by omega),PR.bind_ok];exact h2 f (by omega)
theorem Ev.bindL {x:Nat→PR} {k:Nat→Nd→Bool→List Tok→PL} {t:Nd} {b:Bool} {l:List Tok} {res:PL} (hx:Ev x (.ok t b l)) (hk:Ev (fun f=>k f t b l) res):Ev (fun f=>(x f).bindL (k f)) res:=by
 obtain⟨f1,h1⟩:=hx;obtain⟨f2,h2⟩:=hk;refine⟨max f1 f2,fun f hf=>?_⟩;show (x f).bindL (k f)=res;rw [h1 f (by omega),PR.bindL_ok];exact h2 f (by omega)
theorem Ev.lbind {x:Nat→PL} {k:Nat→List ByteArray→List Nd→List Tok→PR} {t:List ByteArray} {b:List Nd} {l:List Tok} {res:PR} (hx:Ev x (.ok t b l)) (hk:Ev (fun f=>k f t b l) res):Ev (fun f=>(x f).bind (k f)) res:=by
 obtain⟨f1,h1⟩:=hx;obtain⟨f2,h2⟩:=hk;refine⟨max f1 f2,fun f hf=>?_⟩;show (x f).bind (k f)=res;rw [h1 f (by omega),PL.bind_ok];exact h2 f (by omega)
/-! tokens that come -/
theorem Qg (x y:List UInt8):gH (cY x) y=(x==y):=by simp [gH,cY]
theorem Qh (x y:List UInt8):gH (rH x) y=(x==y):=by simp [gH,rH]
theorem Qi (s:ByteArray) (y:List UInt8):gH (CW s) y=false:=by simp [gH,CW]
theorem Nc (t:Tok) (l:List Tok) (x:List UInt8):bZ (t::l) x=gH t x:=rfl
theorem fM (x y:List UInt8) (l:List Tok):bZ (cY x::l) y=(x==y):=Qg x y
theorem kY (x y:List UInt8) (l:List Tok):bZ (rH x::l) y=(x==y):=Qh x y
theorem Qj (s:ByteArray) (y:List UInt8) (l:List Tok):bZ (CW s::l) y=false:=Qi s y
theorem Df {t:Tok} {x y:List UInt8} (h:gH t x=true) (hn:(x==y)=false):gH t y=false:=by
 unfold gH at h ⊢;rw [Bool.and_eq_true,beq_iff_eq] at h;rw [h.2,hn,Bool.and_false]
theorem Qk (s:ByteArray) (y:List UInt8) (hy:jG y=false):gH (Bm s) y=false:=by
 unfold gH Bm;cases hk:jG s.data.toList with
 | false=>simp
 | true=>
  have:(s.data.toList==y)=false:=by
   rw [beq_eq_false_iff_ne];intro e;rw [e,hy] at hk;cases hk
  rw [this,Bool.and_false]
theorem kQ (x:List UInt8) (l:List Tok) (k:List Tok→PR):must x (cY x::l) k=k l:=by unfold must;rw [fM,if_pos (by simp)];rfl
theorem sM (x:List UInt8) (l:List Tok) (k:List Tok→PL):mustL x (cY x::l) k=k l:=by unfold mustL;rw [fM,if_pos (by simp)];rfl
theorem EK (s:ByteArray) (l:List Tok) (k:ByteArray→List Tok→PR):kF true (Bm s::l) k=k s l:=by
 unfold kF;rw [if_pos (by unfold qC cur Bm;cases jG s.data.toList<;>rfl)];rfl
theorem EL (s:ByteArray) (l:List Tok) (k:ByteArray→List Tok→PL):wordL true (Bm s::l) k=k s l:=by
 unfold wordL;rw [if_pos (by unfold qC cur Bm;cases jG s.data.toList<;>rfl)];rfl
theorem Nf (b:Bool) (s:ByteArray) (l:List Tok) (k:ByteArray→List Tok→PR):kF b (CW s::l) k=k s l:=by
 unfold kF;rw [if_pos (by unfold qC;rfl)];rfl
theorem EM (b:Bool) (s:ByteArray) (l:List Tok) (k:ByteArray→List Tok→PL):wordL b (CW s::l) k=k s l:=by
 unfold wordL;rw [if_pos (by unfold qC;rfl)];rfl
theorem gW (x:List UInt8) (r:List Pc):aK (sg x::r)=cY x::aK r:=rfl
theorem tU (x:List UInt8) (r:List Pc):aK (kw x::r)=rH x::aK r:=rfl
theorem Ng (s:ByteArray) (r:List Pc):aK (nm s::r)=CW s::aK r:=rfl
theorem IP (s:ByteArray) (r:List Pc):aK (pp s::r)=Bm s::aK r:=rfl
theorem jR (r:List Pc):aK (.bl::r)=aK r:=rfl
theorem nU:aK []=[]:=rfl
/-! with which tokens an expression begins -/
def firstL:List (List UInt8):=[[40],[123],[45],[33],[110,117,108,108],[116,114,117,101],[102,97,108,115,101],[116,104,105,115],[102,110],
 [99,111,117,110,116],[107,101,121],[104,97,115],[112,114,111,116,111],[115,101,116,112,114,111,116,111],[108,101,110],[115,116,114]]
def sN (t:Tok):Bool:=t.kind==1||t.kind==3||t.kind==4||firstL.any (gH t)
theorem wW {t:Tok} (h:sN t=true) {x:List UInt8} (hx:firstL.contains x=false):gH t x=false:=by
 cases hq:gH t x with
 | false=>rfl
 | true=>
  exfalso;unfold sN at h;have hk:t.kind=2∨t.kind=5:=by
   unfold gH at hq;rw [Bool.and_eq_true,Bool.or_eq_true,beq_iff_eq,beq_iff_eq] at hq;exact hq.1
  have h1:(t.kind==1||t.kind==3||t.kind==4)=false:=by
   rcases hk with h | h<;>rw [h]<;>rfl
  rw [h1,Bool.false_or,List.any_eq_true] at h;obtain⟨y,hy,hty⟩:=h;have hne:(x==y)=false:=by
   rw [beq_eq_false_iff_ne];intro e;subst e;rw [List.contains_iff_mem.2 hy] at hx;cases hx
  rw [Df hq hne] at hty;cases hty
theorem AB {t:Tok} (h:sN t=true):t.kind≠6:=by
 intro e;unfold sN at h;have h0:∀ x,gH t x=false:=by intro x;unfold gH;rw [e];rfl
 have h2:firstL.any (gH t)=false:=by rw [List.any_eq_false];intro x _;rw [h0];decide
 rw [h2,e] at h;cases h
def Firsts (ts:List Tok):Prop:=∃ t r,ts=t::r∧sN t=true
theorem Firsts.app {a b:List Tok} (h:Firsts a):Firsts (a++b):=by
 obtain⟨t,r,e,h1⟩:=h;exact⟨t,r++b,by rw [e];rfl,h1⟩
theorem Firsts.not {l:List Tok} (h:Firsts l) {x:List UInt8} (hx:firstL.contains x=false):bZ l x=false:=by
 obtain⟨t,r,rfl,h1⟩:=h;exact wW h1 hx
theorem Firsts.kind {l:List Tok} (h:Firsts l):(cur l).kind≠6:=by
 obtain⟨t,r,rfl,h1⟩:=h;exact AB h1
/-! units: tokens of which a node comes, whatever stands behind them -/
def GW (l:List Tok):Prop:=bZ l [46]=false∧bZ l [91]=false∧bZ l [40]=false
def Stop (r:Nat) (l:List Tok):Prop:=GW l∧∀ r',r≤r'→lP r' l=none
theorem Stop.up {r r':Nat} {l:List Tok} (h:Stop r l) (hr:r≤r'):Stop r' l:=⟨h.1,fun q hq=>h.2 q (by omega)⟩
def Unit8 (ts:List Tok) (e:Nd) (b nc:Bool):Prop:=
 Firsts ts∧bZ ts [45]=false∧bZ ts [33]=false∧∀ rest res,(nc=true→bZ rest [40]=false)→Ev (fun f=>fB f e b rest) res→Ev (fun f=>kG f (ts++rest)) res
def UnitAt (r:Nat) (ts:List Tok) (e:Nd) (b:Bool):Prop:=
 Firsts ts∧if r≤6 then ∀ rest res,Stop (r+1) rest→Ev (fun f=>gI f r e b rest) res→Ev (fun f=>aS f r (ts++rest)) res
  else ∀ rest,GW rest→Ev (fun f=>aS f 7 (ts++rest)) (.ok e b rest)
theorem Lf {r:Nat} {e:Nd} {b:Bool} {l:List Tok} (h:lP r l=none):Ev (fun f=>gI f r e b l) (.ok e b l):=
 .up (h:=fun _=>.ok e b l) (fun f=>by rw [gI,h]) (.const _)
theorem Ca {e:Nd} {b:Bool} {l:List Tok} (h:GW l):Ev (fun f=>fB f e b l) (.ok e b l):=
 .up (h:=fun _=>.ok e b l) (fun f=>by rw [fB,h.1,h.2.1,h.2.2];rfl) (.const _)
theorem mH {ts rest:List Tok} (h:Firsts ts) (x:List UInt8):bZ (ts++rest) x=bZ ts x:=by
 obtain⟨t,r,rfl,_⟩:=h;rfl
theorem Unit8.at7 {ts:List Tok} {e:Nd} {b nc:Bool} (h:Unit8 ts e b nc):UnitAt 7 ts e b:=by
 obtain⟨h1,h2,h3,h4⟩:=h;refine⟨h1,?_⟩;rw [if_neg (by omega)];intro rest hr;refine .up (h:=fun f=>kG f (ts++rest)) (fun f=>?_) (h4 rest _ (fun _=>hr.2.2) (Ca hr));rw [aS,if_pos (by omega),mH h1,mH h1,h2,h3];rfl
theorem UnitAt.whole {r:Nat} {ts:List Tok} {e:Nd} {b:Bool} (h:UnitAt r ts e b) (hr7:r≤7) {rest:List Tok} (hr:Stop r rest):Ev (fun f=>aS f r (ts++rest)) (.ok e b rest):=by
 obtain⟨h1,h2⟩:=h;by_cases h6:r≤6
 ·rw [if_pos h6] at h2;exact h2 rest _ (hr.up (by omega)) (Lf (hr.2 r (Nat.le_refl _)))
 ·rw [if_neg h6] at h2;have:r=7:=by omega
  subst this;exact h2 rest hr.1
theorem UnitAt.down1 {r:Nat} {ts:List Tok} {e:Nd} {b:Bool} (h:UnitAt (r+1) ts e b) (hr:r≤6):UnitAt r ts e b:=by
 refine⟨h.1,?_⟩;rw [if_pos hr];intro rest res hs hm;have hw:=h.whole (by omega) hs;refine .up (h:=fun f=>(aS f (r+1) (ts++rest)).bind fun e b l=>gI f r e b l) (fun f=>by rw [aS,if_neg (by omega)]) ?_;exact .bind hw hm
theorem UnitAt.down {ts:List Tok} {e:Nd} {b:Bool} : ∀ (n r:Nat),r+n≤7→UnitAt (r+n) ts e b→UnitAt r ts e b
 | 0,_,_,h=>h
 | n+1,r,hr,h=>(UnitAt.down n (r+1) (by omega) (by rw [show r+1+n=r+(n+1) by omega];exact h)).down1 (by omega)
theorem UnitAt.to {q r:Nat} {ts:List Tok} {e:Nd} {b:Bool} (h:UnitAt q ts e b) (hq:q≤7) (hr:r≤q):UnitAt r ts e b:=
 .down (q - r) r (by omega) (by rw [show r+(q - r)=q by omega];exact h)
theorem eI {c:UInt8} {l:List Tok} (h:c=41∨c=93∨c=44∨c=59∨c=125):Stop 1 (cY [c]::l):=by
 have h0:∀ x:List UInt8,x≠[c]→bZ (cY [c]::l) x=false:=by
  intro x hx;rw [fM,beq_eq_false_iff_ne];exact fun e=>hx e.symm
 refine⟨?_,fun r' _=>?_⟩
 ·refine⟨h0 _ ?_,h0 _ ?_,h0 _ ?_⟩<;>(rcases h with rfl | rfl | rfl | rfl | rfl<;>decide)
 ·unfold lP zD;split<;>simp only [pC]<;>rcases h with rfl | rfl | rfl | rfl | rfl<;>simp [fM]
theorem vS {ts:List Tok} {e:Nd} {b:Bool} (h:UnitAt 1 ts e b):Unit8 (cY [40]::(ts++[cY [41]])) e false false:=by
 refine⟨⟨_,_,rfl,by decide⟩,by rw [fM];rfl,by rw [fM];rfl,fun rest res _ ht=>?_⟩;have hw:=h.whole (by omega) (rest:=cY [41]::rest) (eI (.inl rfl));have ha:Ev (fun f=>hH f (cY [40]::(ts++[cY [41]])++rest)) (.ok e false rest):=by
  refine .up (h:=fun f=>(aS f 1 (ts++(cY [41]::rest))).bind fun e _ l=>must [41] l fun l=>.ok e false l) (fun f=>?_) (.bind hw ?_)
  ·rw [hH];simp [cur,cY,bZ,gH]
  ·exact .of (fun f=>kQ _ _ _) (.const _)
 exact .up (h:=fun f=>(hH f (cY [40]::(ts++[cY [41]])++rest)).bind fun e b l=>fB f e b l) (fun f=>by rw [kG]) (.bind ha ht)
theorem lT {t:Tok} {e:Nd} {b nc:Bool} (hf:sN t=true) (h45:gH t [45]=false) (h33:gH t [33]=false) (h:∀ f rest,hH (f+1) (t::rest)=.ok e b rest):Unit8 [t] e b nc:=by
 refine⟨⟨_,_,rfl,hf⟩,h45,h33,fun rest res _ ht=>?_⟩;refine .up (h:=fun f=>(hH f (t::rest)).bind fun e b l=>fB f e b l) (fun f=>by rw [List.cons_append,List.nil_append,kG]) ?_;exact .bind (.up (h:=fun _=>.ok e b rest) (fun f=>h f rest) (.const _)) ht
def oV (x:Nd):Bool:=decide (x.kind=5∨x.kind=13∨x.kind=14)
def gE (x:Nd):Nat:=(rankT x.kind x.op).toNat
def BackE (x:Nd):Prop:=
 UnitAt (min 7 (gE x)) (aK (pcN x).e) (zN x) (oV x)∧(8≤gE x→Unit8 (aK (pcN x).e) (zN x) (oV x) (decide (x.kind=13)))
theorem iH {x:Nd} (h:Unit8 (aK (pcN x).e) (zN x) (oV x) (decide (x.kind=13))) (hr:7≤gE x):BackE x:=
 ⟨by rw [Nat.min_eq_left hr];exact h.at7,fun _=>h⟩
theorem yQ {x:Nd} (hr:gE x≤7) (h:UnitAt (gE x) (aK (pcN x).e) (zN x) (oV x)):BackE x:=
 ⟨by rw [Nat.min_eq_right hr];exact h,fun h8=>by omega⟩
theorem eX {x:Nd} (h:Rt 1 x):1≤gE x:=by
 cases h<;>first | (simp only [gE,Nd.kind,Nd.op];decide) | (rename_i ho _ _;simp only [gE,Nd.kind,Nd.op,rankT];grind) | skip
theorem EN (x:Nd):(pcN x).rank=rankT x.kind x.op:=by obtain⟨k,o,n,s,ns,ks,p⟩:=x;rw [cI];rfl
theorem Nh (x:Nd):(pcN x).kind=x.kind:=by obtain⟨k,o,n,s,ns,ks,p⟩:=x;rw [cI];rfl
theorem BackE.one {x:Nd} (h:BackE x) (hp:1≤gE x):UnitAt 1 (aK (pcN x).e) (zN x) (oV x):=h.1.to (by omega) (by omega)
theorem uM {x:Nd} (h:BackE x) (hp:1≤gE x) {r:Nat} (hr:r≤7):∃ b,UnitAt r (aK (iG (pcN x) r)) (zN x) b:=by
 unfold iG;rw [EN];by_cases hq:(r:Int)≤rankT x.kind x.op
 ·rw [if_pos hq];exact⟨_,h.1.to (by omega) (by unfold gE;omega)⟩
 ·rw [if_neg hq,gW,aZ];exact⟨_,(vS (h.one hp)).at7.to (by omega) hr⟩
theorem pI {x:Nd} (h:BackE x) (hp:1≤gE x) (r:Int) (hr:8≤r):∃ b,Unit8 (aK (iG (pcN x) r)) (zN x) b (decide (x.kind=13∧r≤rankT x.kind x.op)):=by
 unfold iG;rw [EN];by_cases hq:r≤rankT x.kind x.op
 ·rw [if_pos hq];have h8:=h.2 (by unfold gE;omega);refine⟨oV x,?_⟩;rw [show decide (x.kind=13∧r≤rankT x.kind x.op)=decide (x.kind=13) by simp [hq]];exact h8
 ·rw [if_neg hq,gW,aZ];refine⟨false,?_⟩;rw [show decide (x.kind=13∧r≤rankT x.kind x.op)=false by simp [hq]];exact vS (h.one hp)
/-! expressions, kind by kind -/
theorem Cb {o:Int} (h:1≤o∧o≤11) (l:List Tok):∃ r:Nat,rankT 10 o=r∧3≤r∧r≤6∧lP r (cY (signT o)::l)=some (10,o)∧Stop (r+1) (cY (signT o)::l):=by
 obtain rfl | rfl | rfl | rfl | rfl | rfl | rfl | rfl | rfl | rfl | rfl:o=1∨o=2∨o=3∨o=4∨o=5∨o=6∨o=7∨o=8∨o=9∨o=10∨o=11:=by omega
 case' inl=>refine⟨5,?_⟩
 case' inr.inl=>refine⟨5,?_⟩
 case' inr.inr.inl=>refine⟨6,?_⟩
 case' inr.inr.inr.inl=>refine⟨6,?_⟩
 case' inr.inr.inr.inr.inl=>refine⟨6,?_⟩
 case' inr.inr.inr.inr.inr.inl=>refine⟨4,?_⟩
 case' inr.inr.inr.inr.inr.inr.inl=>refine⟨4,?_⟩
 case' inr.inr.inr.inr.inr.inr.inr.inl=>refine⟨4,?_⟩
 case' inr.inr.inr.inr.inr.inr.inr.inr.inl=>refine⟨4,?_⟩
 case' inr.inr.inr.inr.inr.inr.inr.inr.inr.inl=>refine⟨3,?_⟩
 case' inr.inr.inr.inr.inr.inr.inr.inr.inr.inr=>refine⟨3,?_⟩
 all_goals
  refine⟨rfl,by omega,by omega,rfl,⟨rfl,rfl,rfl⟩,fun r' hr'=>?_⟩;unfold lP zD;split<;>first | omega | rfl
theorem Ni (l:List Tok):lP 2 (cY [38,38]::l)=some (11,0)∧Stop 3 (cY [38,38]::l):=by
 refine⟨rfl,⟨rfl,rfl,rfl⟩,fun r' hr'=>?_⟩;unfold lP zD;split<;>first | omega | rfl
theorem OI (l:List Tok):lP 1 (cY [124,124]::l)=some (12,0)∧Stop 2 (cY [124,124]::l):=by
 refine⟨rfl,⟨rfl,rfl,rfl⟩,fun r' hr'=>?_⟩;unfold lP zD;split<;>first | omega | rfl
theorem Dg {r:Nat} (hr:r≤6) {k o:Int} {g:List UInt8} (hg:∀ l,lP r (cY g::l)=some (k,o)∧Stop (r+1) (cY g::l)) {tx ty:List Tok} {ex ey:Nd} {bx b2:Bool} (hx:UnitAt r tx ex bx) (hy:UnitAt (r+1) ty ey b2) :
  UnitAt r (tx++(cY g::ty)) (gK k o [ex,ey]) false:=by
 refine⟨hx.1.app,?_⟩;rw [if_pos hr];intro rest res hs hm;have h1:=hx.2;rw [if_pos hr] at h1;have hw:=hy.whole (by omega) hs;have h2:=h1 (cY g::(ty++rest)) res (hg _).2 (.up (h:=fun f=>(aS f (r+1) (ty++rest)).bind fun e' _ l=>gI f r (gK k o [ex,e']) false l) (fun f=>by rw [gI,(hg _).1];rfl) (.bind hw hm));rw [List.append_assoc];exact h2
theorem qW {x y:Nd} {r:Nat} (hr1:1≤r) (hr:r≤6) {k o:Int} {g:List UInt8} (hg:∀ l,lP r (cY g::l)=some (k,o)∧Stop (r+1) (cY g::l)) (hx:BackE x) (hy:BackE y) (px:1≤gE x) (py:1≤gE y) :
  UnitAt r (aK (lE r g (pcN x) (pcN y))) (gK k o [zN x,zN y]) false:=by
 obtain⟨bx,ux⟩:=uM hx px (r:=r) (by omega);obtain⟨b2,uy⟩:=uM hy py (r:=r+1) (by omega);have e:aK (lE r g (pcN x) (pcN y))=aK (iG (pcN x) r)++(cY g::aK (iG (pcN y) ((r+1:Nat):Int))):=by
  unfold lE;rw [aZ,jR,gW,jR];rfl
 rw [e];exact Dg hr hg ux uy
theorem Nj {ts:List Tok} {e:Nd} {b nc:Bool} (h:Unit8 ts e b nc) (s:ByteArray):Unit8 (ts++[cY [46],Bm s]) (tN 13 s [e]) true true:=by
 obtain⟨h1,h2,h3,h4⟩:=h;refine⟨h1.app,by rw [mH h1];exact h2,by rw [mH h1];exact h3,fun rest res hn ht=>?_⟩;rw [List.append_assoc];refine h4 _ res (fun _=>by rw [List.cons_append,fM];rfl) ?_;refine .up (h:=fun f=>fB f (tN 13 s [e]) true rest) (fun f=>?_) ht;rw [List.cons_append,fB,fM,if_pos (by decide)];show kF true (Bm s::rest) _=_;rw [EK,hn rfl];rfl
theorem GX {ts ti:List Tok} {e i:Nd} {b nc bi nd:Bool} (h:Unit8 ts e b nc) (hi:UnitAt 1 ti i bi):Unit8 (ts++(cY [91]::(ti++[cY [93]]))) (hJ 14 [e,i]) true nd:=by
 obtain⟨h1,h2,h3,h4⟩:=h;refine⟨h1.app,by rw [mH h1];exact h2,by rw [mH h1];exact h3,fun rest res hn ht=>?_⟩;rw [List.append_assoc];refine h4 _ res (fun _=>by rw [List.cons_append,fM];rfl) ?_;have hw:=hi.whole (by omega) (rest:=cY [93]::rest) (eI (.inr (.inl rfl)));refine .up (h:=fun f=>(aS f 1 (ti++(cY [93]::rest))).bind fun i _ l=>must [93] l fun l=>fB f (hJ 14 [e,i]) true l) (fun f=>?_) (.bind hw (.of (fun f=>kQ _ _ _) ht));rw [List.cons_append,fB,fM,fM,if_neg (by decide),if_pos (by decide)];rw [List.append_assoc];rfl
theorem Cc {rest:List Tok} : ∀ (ks:List Nd) (acc:List Nd),(∀ x∈ks,UnitAt 1 (aK (pcN x).e) (zN x) (oV x))→acc.length+ks.length≤7→
  Ev (fun f=>iB f acc (aK (fJ (ks.map pcN))++(cY [41]::rest))) (.ok [] (acc++ks.map zN) rest)
 | [],acc,_,_=>by
  refine .up (h:=fun _=>.ok [] acc rest) (fun f=>?_) (by simpa using Ev.const (PL.ok [] acc rest));rw [iB];have:bZ (aK (fJ (([]:List Nd).map pcN))++(cY [41]::rest)) [44]=false:=rfl;rw [this,if_neg (by simp)];exact sM _ _ _
 | x::ks,acc,h,hl=>by
  have hx:=h x (by simp);have ih:=Cc (rest:=rest) ks (acc++[zN x]) (fun y hy=>h y (by simp [hy])) (by simp at hl ⊢;omega);have e:aK (fJ ((x::ks).map pcN))++(cY [41]::rest)=cY [44]::(aK (pcN x).e++(aK (fJ (ks.map pcN))++(cY [41]::rest))):=by
   simp only [fJ,List.map_cons,List.flatMap_cons,aZ,List.cons_append,gW,jR,List.append_assoc]
  have hst:Stop 1 (aK (fJ (ks.map pcN))++(cY [41]::rest)):=by
   cases ks with
   | nil=>exact eI (.inl rfl)
   | cons y r=>
    have e2:∃ q,aK (fJ ((y::r).map pcN))++(cY [41]::rest)=cY [44]::q:=by
     simp only [fJ,List.map_cons,List.flatMap_cons,List.cons_append,gW];exact⟨_,rfl⟩
    obtain⟨q,e2⟩:=e2;rw [e2];exact eI (.inr (.inr (.inl rfl)))
  rw [e];have hw:=hx.whole (by omega) hst;refine .up (h:=fun f=>(aS f 1 (aK (pcN x).e++(aK (fJ (ks.map pcN))++(cY [41]::rest)))).bindL fun e _ l=>iB f (acc++[e]) l) (fun f=>?_) (.bindL hw (by simpa using ih));rw [iB,fM,if_pos ⟨by simp at hl;omega,by decide⟩];rfl
theorem EO {a:List Nd} {rest:List Tok} (ks:List Nd) (h:∀ x∈ks,UnitAt 1 (aK (pcN x).e) (zN x) (oV x)) (hl:a.length+ks.length≤7) :
  Ev (fun f=>jB f a (aK (mM (ks.map pcN))++(cY [41]::rest))) (.ok [] (a++ks.map zN) rest):=by
 cases ks with
 | nil=>
  refine .up (h:=fun _=>.ok [] a rest) (fun f=>?_) (by simpa using Ev.const (PL.ok [] a rest));rw [jB];have:bZ (aK (mM (([]:List Nd).map pcN))++(cY [41]::rest)) [41]=true:=rfl;rw [this,if_pos rfl];rfl
 | cons x ks=>
  have hx:=h x (by simp);have ih:=Cc (rest:=rest) ks (a++[zN x]) (fun y hy=>h y (by simp [hy])) (by simp at hl ⊢;omega);have e:aK (mM ((x::ks).map pcN))++(cY [41]::rest)=aK (pcN x).e++(aK (fJ (ks.map pcN))++(cY [41]::rest)):=by
   simp only [mM,List.map_cons,aZ,List.append_assoc]
  have hst:Stop 1 (aK (fJ (ks.map pcN))++(cY [41]::rest)):=by
   cases ks with
   | nil=>exact eI (.inl rfl)
   | cons y r=>
    have e2:∃ q,aK (fJ ((y::r).map pcN))++(cY [41]::rest)=cY [44]::q:=by
     simp only [fJ,List.map_cons,List.flatMap_cons,List.cons_append,gW];exact⟨_,rfl⟩
    obtain⟨q,e2⟩:=e2;rw [e2];exact eI (.inr (.inr (.inl rfl)))
  rw [e];have hw:=hx.whole (by omega) hst;refine .up (h:=fun f=>(aS f 1 (aK (pcN x).e++(aK (fJ (ks.map pcN))++(cY [41]::rest)))).bindL fun e _ l=>iB f (a++[e]) l) (fun f=>?_) (.bindL hw (by simpa using ih));rw [jB,mH hx.1,hx.1.not (by decide)];rfl
theorem Lg {ts:List Tok} {e:Nd} {b:Bool} (h:Unit8 ts e b false) {ks:List Nd} (hk:∀ x∈ks,UnitAt 1 (aK (pcN x).e) (zN x) (oV x)) (hl:ks.length≤6):Unit8 (ts++aK (kU (ks.map pcN))) (hJ 15 (e::ks.map zN)) false false:=by
 obtain⟨h1,h2,h3,h4⟩:=h;refine⟨h1.app,by rw [mH h1];exact h2,by rw [mH h1];exact h3,fun rest res hn ht=>?_⟩;rw [List.append_assoc];refine h4 _ res (fun h=>by cases h) ?_;have ha:=EO (a:=[e]) (rest:=rest) ks hk (by simp;omega);refine .up (h:=fun f=>(jB f [e] (aK (mM (ks.map pcN))++(cY [41]::rest))).bind fun _ ks l=>fB f (hJ 15 ks) false l) (fun f=>?_) (.lbind ha ht);unfold kU;rw [gW,aZ,List.cons_append,fB,fM,fM,fM,if_neg (by decide),if_neg (by decide),if_pos (by decide),List.append_assoc];rfl
theorem Lh {ts:List Tok} {e:Nd} {b nc:Bool} (h:Unit8 ts e b nc) (s:ByteArray) {ks:List Nd} (hk:∀ x∈ks,UnitAt 1 (aK (pcN x).e) (zN x) (oV x)) (hl:ks.length≤6) :
  Unit8 (ts++(cY [46]::Bm s::aK (kU (ks.map pcN)))) (tN 16 s (e::ks.map zN)) false false:=by
 obtain⟨h1,h2,h3,h4⟩:=h;refine⟨h1.app,by rw [mH h1];exact h2,by rw [mH h1];exact h3,fun rest res hn ht=>?_⟩;rw [List.append_assoc];refine h4 _ res (fun _=>by rw [List.cons_append,fM];rfl) ?_;have ha:=EO (a:=[e]) (rest:=rest) ks hk (by simp;omega);refine .up (h:=fun f=>(jB f [e] (aK (mM (ks.map pcN))++(cY [41]::rest))).bind fun _ ks l=>fB f (tN 16 s ks) false l) (fun f=>?_) (.lbind ha ht);unfold kU;rw [gW,aZ,List.cons_append,fB,fM,if_pos (by decide)];show kF true (Bm s::(cY [40]::(aK (mM (ks.map pcN))++[cY [41]])++rest)) _=_;rw [EK,List.cons_append,fM,if_pos (by decide),List.append_assoc];rfl
theorem wX {ts:List Tok} {e:Nd} {b nc:Bool} (hf:Firsts ts) (h45:bZ ts [45]=false) (h33:bZ ts [33]=false) (h:∀ rest,Ev (fun f=>hH f (ts++rest)) (.ok e b rest)):Unit8 ts e b nc:=
 ⟨hf,h45,h33,fun rest res _ ht=>.up (h:=fun f=>(hH f (ts++rest)).bind fun e b l=>fB f e b l) (fun f=>by rw [kG]) (.bind (h rest) ht)⟩
/-! objects -/
theorem xU (ns:List ByteArray) (ks:List Nd) (rest:List Tok):Stop 1 (aK (fK ns (ks.map pcN))++(cY [125]::rest)):=by
 cases ns with
 | nil=>cases ks<;>exact eI (by simp)
 | cons s ns=>
  cases ks with
  | nil=>exact eI (by simp)
  | cons x ks=>
   have e:∃ q,aK (fK (s::ns) ((x::ks).map pcN))++(cY [125]::rest)=cY [44]::q:=by
    simp only [fK,List.map_cons,List.cons_append,gW];exact⟨_,rfl⟩
   obtain⟨q,e⟩:=e;rw [e];exact eI (by simp)
theorem xV {rest:List Tok} : ∀ (ns:List ByteArray) (ks:List Nd) (an:List ByteArray) (ak:List Nd),ks.length=ns.length→(∀ x∈ks,UnitAt 1 (aK (pcN x).e) (zN x) (oV x))→ak.length+ks.length≤40→
  Ev (fun f=>lW f an ak (aK (fK ns (ks.map pcN))++(cY [125]::rest))) (.ok (an++ns) (ak++ks.map zN) rest)
 | [],[],an,ak,_,_,_=>by
  refine .up (h:=fun _=>.ok an ak rest) (fun f=>?_) (by simpa using Ev.const (PL.ok an ak rest));rw [lW];have:bZ (aK (fK [] (([]:List Nd).map pcN))++(cY [125]::rest)) [44]=false:=rfl;rw [this,if_neg (by simp)];exact sM _ _ _
 | s::ns,x::ks,an,ak,hn,h,hl=>by
  have hx:=h x (by simp);have ih:=xV (rest:=rest) ns ks (an++[s]) (ak++[zN x]) (by simpa using hn) (fun y hy=>h y (by simp [hy])) (by simp at hl ⊢;omega);have e:aK (fK (s::ns) ((x::ks).map pcN))++(cY [125]::rest)=cY [44]::Bm s::cY [58]::(aK (pcN x).e++(aK (fK ns (ks.map pcN))++(cY [125]::rest))):=by
   simp only [fK,sF,List.map_cons,aZ,List.cons_append,gW,IP,jR,List.append_assoc]
  rw [e];have hw:=hx.whole (by omega) (xU ns ks rest);refine .up (h:=fun f=>kH f an ak (Bm s::cY [58]::(aK (pcN x).e++(aK (fK ns (ks.map pcN))++(cY [125]::rest))))) (fun f=>?_) ?_
  ·rw [lW,fM,if_pos ⟨by simp at hl;omega,by decide⟩];rfl
  ·refine .up (h:=fun f=>(aS f 1 (aK (pcN x).e++(aK (fK ns (ks.map pcN))++(cY [125]::rest)))).bindL fun e _ l=>lW f (an++[s]) (ak++[e]) l) (fun f=>?_) (.bindL hw (by simpa using ih));rw [kH,EL,sM]
 | [],x::ks,_,_,hn,_,_=>by simp at hn
 | s::ns,[],_,_,hn,_,_=>by simp at hn
theorem Nk {ns:List ByteArray} {ks:List Nd} (hn:ks.length=ns.length) (h40:ns.length≤40) (hk:∀ x∈ks,UnitAt 1 (aK (pcN x).e) (zN x) (oV x)):Unit8 (aK (wS ns (ks.map pcN))) (.mk 7 0 0 bz ns (ks.map zN) 0) false false:=by
 have h1:∃ q,aK (wS ns (ks.map pcN))=cY [123]::q:=by
  cases ns with
  | nil=>cases ks<;>exact⟨_,rfl⟩
  | cons s ns=>cases ks<;>exact⟨_,rfl⟩
 obtain⟨q,hq⟩:=h1;refine wX ⟨_,_,hq,by decide⟩ (by rw [hq,fM];rfl) (by rw [hq,fM];rfl) fun rest=>?_
 have key:Ev (fun f=>tO f (q++rest)) (.ok ns (ks.map zN) rest):=by
  cases ns with
  | nil=>
   have hk0:ks=[]:=List.length_eq_zero_iff.1 (by simpa using hn);subst hk0;have hq':q=[cY [125]]:=by have:aK (wS [] (([]:List Nd).map pcN))=[cY [123],cY [125]]:=rfl;rw [this] at hq;injection hq with _ h;exact h.symm
   subst hq';refine .up (h:=fun _=>.ok [] [] rest) (fun f=>?_) (.const _);rw [tO,List.cons_append,fM,if_pos (by decide)];rfl
  | cons s ns=>
   cases ks with
   | nil=>simp at hn
   | cons x ks=>
    have hx:=hk x (by simp);have hq':q=Bm s::cY [58]::(aK (pcN x).e++(aK (fK ns (ks.map pcN))++[cY [125]])):=by
     have:aK (wS (s::ns) ((x::ks).map pcN))=cY [123]::Bm s::cY [58]::(aK (pcN x).e++(aK (fK ns (ks.map pcN))++[cY [125]])):=by
      simp only [wS,sF,List.map_cons,aZ,List.cons_append,gW,IP,jR,nU,List.append_assoc]
     rw [this] at hq;injection hq with _ h;exact h.symm
    have ih:=xV (rest:=rest) ns ks [s] [zN x] (by simpa using hn) (fun y hy=>hk y (by simp [hy])) (by simp at hn h40 ⊢;omega);have hw:=hx.whole (by omega) (xU ns ks rest);have e:q++rest=Bm s::cY [58]::(aK (pcN x).e++(aK (fK ns (ks.map pcN))++(cY [125]::rest))):=by rw [hq'];simp
    rw [e];refine .up (h:=fun f=>kH f [] [] (Bm s::cY [58]::(aK (pcN x).e++(aK (fK ns (ks.map pcN))++(cY [125]::rest))))) (fun f=>?_) ?_
    ·rw [tO,Nc,Qk s _ (by decide)];rfl
    ·refine .up (h:=fun f=>(aS f 1 (aK (pcN x).e++(aK (fK ns (ks.map pcN))++(cY [125]::rest)))).bindL fun e _ l=>lW f ([]++[s]) ([]++[e]) l) (fun f=>?_) (.bindL hw (by simpa using ih));rw [kH,EL,sM]
 rw [hq];refine .up (h:=fun f=>(tO f (q++rest)).bind fun ns ks l=>.ok (.mk 7 0 0 bz ns ks 0) false l) (fun f=>?_) (.lbind key (.const _));rw [List.cons_append,hH];simp [cur,cY,bZ,gH]
/-! functions -/
theorem Cd {rest:List Tok} : ∀ (ns:List ByteArray) (s:ByteArray) (an:List ByteArray) (f:Nat),ns.length+1≤f→tX f an (CW s::(aK (mE ns)++(cY [41]::rest)))=.ok (an++s::ns) [] rest
 | [],s,an,f,hf=>by
  obtain⟨f,rfl⟩:∃ f',f=f'+1:=⟨f - 1,by simp at hf;omega⟩
  rw [tX,EM];have:bZ (aK (mE [])++(cY [41]::rest)) [44]=false:=rfl;rw [this,if_neg (by simp)];exact sM _ _ _
 | n::ns,s,an,f,hf=>by
  obtain⟨f,rfl⟩:∃ f',f=f'+1:=⟨f - 1,by simp at hf;omega⟩
  have e:aK (mE (n::ns))++(cY [41]::rest)=cY [44]::CW n::(aK (mE ns)++(cY [41]::rest)):=by
   simp only [mE,List.flatMap_cons,List.cons_append,gW,jR,Ng,List.nil_append]
  rw [tX,EM,e,fM,if_pos ⟨by simp at hf;omega,by decide⟩];show tX f (an++[s]) (CW n::(aK (mE ns)++(cY [41]::rest)))=_;rw [Cd ns n (an++[s]) f (by simp at hf;omega)];simp
theorem Nl {ns:List ByteArray} (h:ns.length≤6) (rest:List Tok):rC (aK (nO ns)++(cY [41]::rest))=.ok ns [] rest:=by
 unfold rC;cases ns with
 | nil=>
  have:bZ (aK (nO [])++(cY [41]::rest)) [41]=true:=rfl;rw [this,if_pos rfl];rfl
 | cons s ns=>
  have e:aK (nO (s::ns))++(cY [41]::rest)=CW s::(aK (mE ns)++(cY [41]::rest)):=rfl;rw [e,Qj,if_neg (by simp),Cd ns s [] 6 (by simp at h;omega)];rfl
/-! statements -/
def GY (t:Tok):Bool:=sN t||[[108,101,116],[112,114,105,110,116],[114,101,116,117,114,110],[100,101,108,101,116,101],[105,102],[119,104,105,108,101]].any (gH t)
def FirstsS (ts:List Tok):Prop:=∃ t r,ts=t::r∧GY t=true
theorem FirstsS.ofE {ts:List Tok} (h:Firsts ts):FirstsS ts:=by
 obtain⟨t,r,e,h1⟩:=h;exact⟨t,r,e,by unfold GY;rw [h1];rfl⟩
theorem FirstsS.app {a b:List Tok} (h:FirstsS a):FirstsS (a++b):=by
 obtain⟨t,r,e,h1⟩:=h;exact⟨t,r++b,by rw [e];rfl,h1⟩
theorem FirstsS.not {l:List Tok} (h:FirstsS l):bZ l [125]=false∧bZ l [101,108,115,101]=false∧(cur l).kind≠6:=by
 obtain⟨t,r,rfl,h1⟩:=h;unfold GY at h1;rw [Bool.or_eq_true] at h1;rcases h1 with h1 | h1
 ·exact⟨wW h1 (by decide),wW h1 (by decide),AB h1⟩
 ·rw [List.any_eq_true] at h1;obtain⟨x,hx,ht⟩:=h1;refine⟨Df ht ?_,Df ht ?_,?_⟩
  ·simp only [List.mem_cons,List.not_mem_nil,or_false] at hx;rcases hx with rfl | rfl | rfl | rfl | rfl | rfl<;>rfl
  ·simp only [List.mem_cons,List.not_mem_nil,or_false] at hx;rcases hx with rfl | rfl | rfl | rfl | rfl | rfl<;>rfl
  ·intro e;have e':t.kind=6:=e;unfold gH at ht;rw [e'] at ht;cases ht
def AC (x:Nd):Prop:=FirstsS (aK (pcN x).s)∧∀ rest,bZ rest [101,108,115,101]=false→Ev (fun f=>kI f (aK (pcN x).s++rest)) (.ok (zN x) false rest)
def Pw (x:Nd):Prop:=(pcN x).has=(!(zN x).kids.isEmpty)∧∀ rest,Ev (fun f=>dY f (aK (pcN x).b++rest)) (.ok (zN x) false rest)
theorem pM {rest:List Tok} (he:bZ rest [101,108,115,101]=false):∀ (ks:List Nd) (acc:List Nd),(∀ x∈ks,AC x)→acc.length+ks.length≤40→∀ res,Ev (fun f=>eG f (acc++ks.map zN) rest) res→
  Ev (fun f=>eG f acc (aK (fC (ks.map pcN))++rest)) res
 | [],acc,_,_,res,h=>by simpa [fC,nU] using h
 | x::ks,acc,h,hl,res,hr=>by
  obtain⟨hf,hx⟩:=h x (by simp);have ih:=pM he ks (acc++[zN x]) (fun y hy=>h y (by simp [hy])) (by simp at hl ⊢;omega) res (by simpa using hr);have e:aK (fC ((x::ks).map pcN))++rest=aK (pcN x).s++(aK (fC (ks.map pcN))++rest):=by
   simp only [fC,List.map_cons,List.flatMap_cons,aZ,List.cons_append,jR,List.append_assoc]
  have hst:bZ (aK (fC (ks.map pcN))++rest) [101,108,115,101]=false:=by
   cases ks with
   | nil=>exact he
   | cons y r=>
    have e2:aK (fC ((y::r).map pcN))++rest=aK (pcN y).s++(aK (fC (r.map pcN))++rest):=by
     simp only [fC,List.map_cons,List.flatMap_cons,aZ,List.cons_append,jR,List.append_assoc]
    rw [e2];exact ((h y (by simp)).1.app).not.2.1
  rw [e];have hn:=(hf.app (b:=aK (fC (ks.map pcN))++rest)).not;refine .up (h:=fun f=>(kI f (aK (pcN x).s++(aK (fC (ks.map pcN))++rest))).bindL fun e _ l=>eG f (acc++[e]) l) (fun f=>?_) (.bindL (hx _ hst) ih);rw [eG,if_pos ⟨by simp at hl;omega,hn.1,hn.2.2⟩]
theorem Ce {ks:List Nd} (h:∀ x∈ks,AC x) (hl:ks.length≤40) (rest:List Tok):Ev (fun f=>dY f (aK (blockC (ks.map pcN))++rest)) (.ok (hJ 29 (ks.map zN)) false rest):=by
 have e:aK (blockC (ks.map pcN))++rest=cY [123]::(aK (fC (ks.map pcN))++(cY [125]::rest)):=by
  unfold blockC;rw [gW,aZ];cases ks<;>simp [gW,jR,nU]
 rw [e];have h1:Ev (fun f=>eG f (ks.map zN) (cY [125]::rest)) (.ok [] (ks.map zN) (cY [125]::rest)):=by
  refine .up (h:=fun _=>.ok [] (ks.map zN) (cY [125]::rest)) (fun f=>?_) (.const _);rw [eG,fM,if_neg (by simp)]
 have h2:=pM (rest:=cY [125]::rest) (by rw [fM];rfl) ks [] h (by simpa using hl) _ h1;refine .up (h:=fun f=>(eG f [] (aK (fC (ks.map pcN))++(cY [125]::rest))).bind fun _ ks l=>must [125] l fun l=>.ok (hJ 29 ks) false l) (fun f=>by rw [dY,kQ]) (.lbind h2 ?_);exact .of (fun f=>kQ _ _ _) (.const _)
theorem OJ {ns:List ByteArray} {ks:List Nd} (h6:ns.length≤6) (hl:ks.length≤40) (hk:∀ x∈ks,AC x):Unit8 (aK (kw [102,110]::sg [40]::(nO ns++(sg [41] :: .bl::blockC (ks.map pcN))))) (.mk 8 0 0 bz ns (ks.map zN) 0) false false:=by
 have e:aK (kw [102,110]::sg [40]::(nO ns++(sg [41] :: .bl::blockC (ks.map pcN))))=rH [102,110]::cY [40]::(aK (nO ns)++(cY [41]::aK (blockC (ks.map pcN)))):=by
  rw [tU,gW,aZ,gW,jR]
 rw [e];refine wX ⟨_,_,rfl,by decide⟩ (by rw [kY];rfl) (by rw [kY];rfl) fun rest=>?_
 have hb:=Ce hk hl rest;refine .up (h:=fun f=>(dY f (aK (blockC (ks.map pcN))++rest)).bind fun b _ l'=>.ok (.mk 8 0 0 bz ns b.kids 0) false l') (fun f=>?_) (.bind hb (.const _));rw [List.cons_append,hH];have hc:(cur (rH [102,110]::(cY [40]::(aK (nO ns)++(cY [41]::aK (blockC (ks.map pcN))))++rest))).kind=2:=rfl;have hp:(cur (rH [102,110]::(cY [40]::(aK (nO ns)++(cY [41]::aK (blockC (ks.map pcN))))++rest))).pl=0:=rfl;rw [hc,hp];simp only [kY];rw [if_neg (by decide),if_neg (by decide),if_neg (by decide),if_neg (by decide),if_neg (by decide),if_neg (by decide),if_neg (by decide),if_neg (by decide),if_neg (by decide),if_pos (by decide)];show must [40] (cY [40]::((aK (nO ns)++(cY [41]::aK (blockC (ks.map pcN))))++rest)) _=_;rw [kQ];have e2:(aK (nO ns)++(cY [41]::aK (blockC (ks.map pcN))))++rest=aK (nO ns)++(cY [41]::(aK (blockC (ks.map pcN))++rest)):=by simp
 rw [e2,Nl h6,PL.bind_ok]
theorem AD {o:Int} (h:1≤o∧o≤7) (l:List Tok) :
  sN (rH (builtT o).1)=true∧gH (rH (builtT o).1) [45]=false∧gH (rH (builtT o).1) [33]=false∧nS (rH (builtT o).1::l)=some o∧
  [[110,117,108,108],[116,114,117,101],[102,97,108,115,101],[116,104,105,115],[40],[123],[102,110]].all (fun x=>!bZ (rH (builtT o).1::l) x)=true∧((builtT o).2=1∨(builtT o).2=2):=by
 obtain rfl | rfl | rfl | rfl | rfl | rfl | rfl:o=1∨o=2∨o=3∨o=4∨o=5∨o=6∨o=7:=by omega
 all_goals exact⟨by decide,by decide,by decide,rfl,rfl,by decide⟩
theorem GZ {o:Int} (ho:1≤o∧o≤7) {ks:List Nd} (hc:ks.length=(builtT o).2) (hk:∀ x∈ks,UnitAt 1 (aK (pcN x).e) (zN x) (oV x)):Unit8 (aK (kw (builtT o).1::kU (ks.map pcN))) (gK 17 o (ks.map zN)) false false:=by
 obtain⟨b1,b2,b3,_,_,b6⟩:=AD ho [];rw [tU];refine wX ⟨_,_,rfl,b1⟩ b2 b3 fun rest=>?_
 obtain⟨_,_,_,b4,b5,_⟩:=AD ho (aK (kU (ks.map pcN))++rest);simp only [List.all_cons,List.all_nil,Bool.and_eq_true,Bool.not_eq_true'] at b5;obtain⟨n1,n2,n3,n4,n5,n6,n7,_⟩:=b5;have head:∀ f,hH (f+1) (rH (builtT o).1::aK (kU (ks.map pcN))++rest)=must [40] (aK (kU (ks.map pcN))++rest) fun l=>(aS f 1 l).bind fun e _ l=>
     if (builtT o).2=2 then must [44] l fun l=>(aS f 1 l).bind fun e' _ l=>must [41] l fun l=>.ok (gK 17 o [e,e']) false l
     else must [41] l fun l=>.ok (gK 17 o [e]) false l:=by
  intro f;rw [List.cons_append,hH];have hcur:(cur (rH (builtT o).1::(aK (kU (ks.map pcN))++rest))).kind=2:=rfl;rw [hcur,n1,n2,n3,n4,n5,n6,n7,b4,if_neg (by decide),if_neg (by decide),if_neg (by decide)];rfl
 refine .up head ?_;have e:aK (kU (ks.map pcN))++rest=cY [40]::(aK (mM (ks.map pcN))++(cY [41]::rest)):=by
  unfold kU;rw [gW,aZ];simp [gW,nU]
 rw [e];refine .of (fun f=>kQ _ _ _) ?_;rcases b6 with b6 | b6
 ·rw [b6] at hc;obtain⟨x,rfl⟩:=List.length_eq_one_iff.1 hc;have hw:=(hk x (by simp)).whole (by omega) (rest:=cY [41]::rest) (eI (by simp));have e2:aK (mM ([x].map pcN))++(cY [41]::rest)=aK (pcN x).e++(cY [41]::rest):=by simp [mM,fJ]
  rw [e2];refine .bind hw (.of (fun f=>?_) (.const _));rw [b6,if_neg (by decide),kQ];rfl
 ·rw [b6] at hc;obtain⟨x,y,rfl⟩:=pD hc;have hx:=hk x (by simp);have hy:=hk y (by simp);have hw:=hx.whole (by omega) (rest:=cY [44]::(aK (pcN y).e++(cY [41]::rest))) (eI (by simp));have hv:=hy.whole (by omega) (rest:=cY [41]::rest) (eI (by simp));have e2:aK (mM ([x,y].map pcN))++(cY [41]::rest)=aK (pcN x).e++(cY [44]::(aK (pcN y).e++(cY [41]::rest))):=by
   simp only [mM,fJ,List.map_cons,List.map_nil,List.flatMap_cons,List.flatMap_nil,List.append_nil,aZ,gW,jR,List.append_assoc,List.cons_append]
  rw [e2];refine .bind hw ?_;refine .of (h:=fun f=>(aS f 1 (aK (pcN y).e++(cY [41]::rest))).bind fun e' _ l=>must [41] l fun l=>.ok (gK 17 o [zN x,e']) false l) (fun f=>?_) (.bind hv (.of (fun f=>kQ _ _ _) (.const _)));rw [b6,if_pos rfl,kQ]
theorem vT {ks:List Nd} (h:∀ x∈ks,Rt 1 x) (hb:∀ x∈ks,BackE x):∀ x∈ks,UnitAt 1 (aK (pcN x).e) (zN x) (oV x):=fun x hx=>(hb x hx).one (eX (h x hx))
theorem AE {s:ByteArray} {x:Nd} (hx:Rt 1 x) (ix:BackE x):Unit8 (aK (sG (pcN x) s)) (tN 13 s [zN x]) true true:=by
 obtain⟨b,u⟩:=pI ix (eX hx) 8 (by omega);unfold sG;rw [aZ,gW,IP,nU];exact Nj u s
theorem uN {x y:Nd} (hx:Rt 1 x) (hy:Rt 1 y) (ix:BackE x) (iy:BackE y) (nd:Bool):Unit8 (aK (mF (pcN x) (pcN y))) (hJ 14 [zN x,zN y]) true nd:=by
 obtain⟨b,u⟩:=pI ix (eX hx) 8 (by omega);unfold mF;rw [aZ,gW,aZ,gW,nU];exact GX u (iy.one (eX hy))
theorem OK (l:List Tok):Stop 1 (cY [61]::l):=by
 refine⟨⟨rfl,rfl,rfl⟩,fun r' _=>?_⟩;unfold lP zD;split<;>rfl
theorem lF {ts:List Tok} {e:Nd} (h1:bZ ts [105,102]=false) (h2:bZ ts [119,104,105,108,101]=false) {rest:List Tok} (h:Ev (fun f=>iK f ts) (.ok e false (cY [59]::rest))):Ev (fun f=>kI f ts) (.ok e false rest):=by
 refine .up (h:=fun f=>(iK f ts).bind fun e _ l=>must [59] l fun l=>.ok e false l) (fun f=>?_) (.bind h (.of (fun f=>kQ _ _ _) (.const _)));rw [kI,h1,h2];rfl
theorem Bn {ts rest:List Tok} {e:Nd} {b:Bool} (hf:Firsts ts) (h:UnitAt 1 ts e b):Ev (fun f=>iK f (ts++(cY [59]::rest))) (.ok (hJ 32 [e]) false (cY [59]::rest)):=by
 have hw:=h.whole (by omega) (rest:=cY [59]::rest) (eI (by simp));have hn:=fun x hx=>(hf.app (b:=cY [59]::rest)).not (x:=x) hx
 refine .up (h:=fun f=>(aS f 1 (ts++(cY [59]::rest))).bind fun e b l=>if b=true∧bZ l [61]=true then (aS f 1 l.tail).bind fun v _ l=>.ok (becomeN e v) false l else .ok (hJ 32 [e]) false l) (fun f=>?_) (.bind hw (.of (fun f=>?_) (.const _)))
 ·rw [iK,hn _ (by decide),hn _ (by decide),hn _ (by decide),hn _ (by decide)];rfl
 ·rw [fM,if_neg (by intro h;exact absurd h.2 (by decide))]
theorem Dh {ts tv rest:List Tok} {e v:Nd} {b:Bool} (hf:Firsts ts) (h:UnitAt 1 ts e true) (hv:UnitAt 1 tv v b):Ev (fun f=>iK f (ts++(cY [61]::(tv++(cY [59]::rest))))) (.ok (becomeN e v) false (cY [59]::rest)):=by
 have hw:=h.whole (by omega) (rest:=cY [61]::(tv++(cY [59]::rest))) (OK _);have hw2:=hv.whole (by omega) (rest:=cY [59]::rest) (eI (by simp));have hn:=fun x hx=>(hf.app (b:=cY [61]::(tv++(cY [59]::rest)))).not (x:=x) hx
 refine .up (h:=fun f=>(aS f 1 (ts++(cY [61]::(tv++(cY [59]::rest))))).bind fun e b l=>if b=true∧bZ l [61]=true then (aS f 1 l.tail).bind fun v _ l=>.ok (becomeN e v) false l else .ok (hJ 32 [e]) false l) (fun f=>?_) (.bind hw ?_)
 ·rw [iK,hn _ (by decide),hn _ (by decide),hn _ (by decide),hn _ (by decide)];rfl
 ·refine .of (h:=fun f=>(aS f 1 (tv++(cY [59]::rest))).bind fun v _ l=>.ok (becomeN e v) false l) (fun f=>?_) (.bind hw2 (.const _));rw [fM,if_pos ⟨rfl,by decide⟩];rfl
theorem oG (x:Px) (R:List Pc):aK (gV x++R)=cY [61]::(aK x.e++aK R):=by
 unfold gV;rw [List.cons_append,List.cons_append,List.cons_append,jR,gW,jR,aZ]
theorem sO {ts:List Tok} {e:Nd} (h:UnitAt 1 ts e true) {v:Nd} (hv:UnitAt 1 (aK (pcN v).e) (zN v) (oV v)) {x:Nd} (ht:aK (pcN x).s=ts++(cY [61]::(aK (pcN v).e++[cY [59]]))) (hz:becomeN e (zN v)=zN x):AC x:=by
 have hf:=h.1;refine⟨by rw [ht];exact .ofE hf.app,fun rest _=>?_⟩;rw [ht,← hz];have e2:ts++(cY [61]::(aK (pcN v).e++[cY [59]]))++rest=ts++(cY [61]::(aK (pcN v).e++(cY [59]::rest))):=by simp
 rw [e2];exact lF (hf.app.not (by decide)) (hf.app.not (by decide)) (Dh hf h hv)
theorem Cf {key:List UInt8} {k:Int} (hk:key=[112,114,105,110,116]∧k=27∨key=[114,101,116,117,114,110]∧k=31) {ts rest:List Tok} {e:Nd} {b:Bool} (h:UnitAt 1 ts e b) :
  Ev (fun f=>kI f (rH key::(ts++(cY [59]::rest)))) (.ok (hJ k [e]) false rest):=by
 have hw:=h.whole (by omega) (rest:=cY [59]::rest) (eI (by simp));refine lF (by rw [kY];rcases hk with ⟨rfl,_⟩ | ⟨rfl,_⟩<;>rfl) (by rw [kY];rcases hk with ⟨rfl,_⟩ | ⟨rfl,_⟩<;>rfl) ?_;refine .up (h:=fun f=>(aS f 1 (ts++(cY [59]::rest))).bind fun e _ l=>.ok (hJ k [e]) false l) (fun f=>?_) (.bind hw (.const _));rw [iK];rcases hk with ⟨rfl,rfl⟩ | ⟨rfl,rfl⟩<;>simp only [kY]<;>rfl
theorem EP {ts rest:List Tok} {e:Nd} {nc:Bool} (h:Unit8 ts e true nc) (h5:e.kind≠5):Ev (fun f=>kI f (rH [100,101,108,101,116,101]::(ts++(cY [59]::rest)))) (.ok (if e.kind=13 then tN 25 e.str e.kids else hJ 26 e.kids) false rest):=by
 refine lF (by rw [kY];rfl) (by rw [kY];rfl) ?_;have hp:Ev (fun f=>kG f (ts++(cY [59]::rest))) (.ok e true (cY [59]::rest)):=h.2.2.2 _ _ (fun _=>by rw [fM];rfl) (Ca (eI (c:=59) (by simp)).1);refine .up (h:=fun f=>(kG f (ts++(cY [59]::rest))).bind fun e b l=>if b=true∧e.kind≠5 then .ok (if e.kind=13 then tN 25 e.str e.kids else hJ 26 e.kids) false l else .bad l) (fun f=>?_) (.bind hp (.of (fun f=>?_) (.const _)))
 ·rw [iK];simp only [kY];rfl
 ·rw [if_pos ⟨rfl,h5⟩]
theorem IQ {ts rest:List Tok} {e:Nd} {b:Bool} (h:UnitAt 1 ts e b):Ev (fun f=>mS f (cY [40]::(ts++(cY [41]::rest)))) (.ok e false rest):=by
 have hw:=h.whole (by omega) (rest:=cY [41]::rest) (eI (by simp));exact .up (h:=fun f=>(aS f 1 (ts++(cY [41]::rest))).bind fun e _ l=>must [41] l fun l=>.ok e false l) (fun f=>by rw [mS,kQ]) (.bind hw (.of (fun f=>kQ _ _ _) (.const _)))
def IR (a:Nat) (t:Nd):Prop:=(a=1→BackE t)∧(a=2→AC t)∧(a=3→Pw t)
theorem mO {t:Nd} (h:BackE t):IR 1 t:=⟨fun _=>h,fun h=>(by cases h),fun h=>(by cases h)⟩
theorem sP {t:Nd} (h:AC t):IR 2 t:=⟨fun h=>(by cases h),fun _=>h,fun h=>(by cases h)⟩
theorem QD {t:Nd} (h:Pw t):IR 3 t:=⟨fun h=>(by cases h),fun h=>(by cases h),fun _=>h⟩
theorem OL {a:Nat} {t:Nd} (h:Rt a t):IR a t:=by
 induction h with
 | null p=>exact mO (iH (lT (t:=rH [110,117,108,108]) (by decide) (by decide) (by decide) fun f rest=>by rw [hH];rfl) (by simp only [gE,Nd.kind,Nd.op];decide))
 | bool n p hn=>
  rcases hn with rfl | rfl
  ·exact mO (iH (lT (t:=rH [102,97,108,115,101]) (by decide) (by decide) (by decide) fun f rest=>by rw [hH];rfl) (by simp only [gE,Nd.kind,Nd.op];decide))
  ·exact mO (iH (lT (t:=rH [116,114,117,101]) (by decide) (by decide) (by decide) fun f rest=>by rw [hH];rfl) (by simp only [gE,Nd.kind,Nd.op];decide))
 | int n p hn=>exact mO (iH (lT (t:=⟨3,⟨(digs n).toArray⟩,n,0⟩) rfl rfl rfl fun f rest=>by rw [hH];rfl) (by simp only [gE,Nd.kind,Nd.op];decide))
 | str s p hs=>exact mO (iH (lT (t:=⟨4,s,0,0⟩) rfl rfl rfl fun f rest=>by rw [hH];rfl) (by simp only [gE,Nd.kind,Nd.op];decide))
 | name s p hs=>exact mO (iH (lT (t:=CW s) rfl rfl rfl fun f rest=>by rw [hH];rfl) (by simp only [gE,Nd.kind,Nd.op];decide))
 | this p=>exact mO (iH (lT (t:=rH [116,104,105,115]) (by decide) (by decide) (by decide) fun f rest=>by rw [hH];rfl) (by simp only [gE,Nd.kind,Nd.op];decide))
 | obj ns ks p hl hm hns hk ih=>
  refine mO (iH ?_ (by simp only [gE,Nd.kind,Nd.op];decide));rw [fO,cI];exact Nk hl hm (vT hk fun x hx=>(ih x hx).1 rfl)
 | fn ns ks p hm hns hc hk ih=>
  refine mO (iH ?_ (by simp only [gE,Nd.kind,Nd.op];decide));rw [fO,cI];exact OJ hm hc fun x hx=>(ih x hx).2.1 rfl
 | un o x p ho hx ix=>
  have hr:gE (.mk 9 o 0 bz [] [x] p)=7:=by simp only [gE,Nd.kind,Nd.op,rankT];rfl
  refine mO (yQ (by omega) ?_);rw [hr,fO,cI];obtain⟨b,u⟩:=uM (ix.1 rfl) (eX hx) (r:=7) (by omega);have hu:=u.2;rw [if_neg (by omega)] at hu;rcases ho with rfl | rfl
  ·refine⟨⟨cY [45],_,rfl,by decide⟩,?_⟩;rw [if_neg (by omega)];intro rest hrest;refine .up (h:=fun f=>(aS f 7 (aK (iG (pcN x) ((7:Nat):Int))++rest)).bind fun e _ l=>.ok (gK 9 1 [e]) false l) (fun f=>?_) (.bind (hu rest hrest) (.const _));show aS (f+1) 7 (cY [45]::(aK (iG (pcN x) ((7:Nat):Int))++rest))=_;rw [aS,fM];rfl
  ·refine⟨⟨cY [33],_,rfl,by decide⟩,?_⟩;rw [if_neg (by omega)];intro rest hrest;refine .up (h:=fun f=>(aS f 7 (aK (iG (pcN x) ((7:Nat):Int))++rest)).bind fun e _ l=>.ok (gK 9 2 [e]) false l) (fun f=>?_) (.bind (hu rest hrest) (.const _));show aS (f+1) 7 (cY [33]::(aK (iG (pcN x) ((7:Nat):Int))++rest))=_;rw [aS,fM,fM];rfl
 | bin o x y p ho hx hy ix iy=>
  obtain⟨r,e,r3,r6,_,_⟩:=Cb ho [];have hr:gE (.mk 10 o 0 bz [] [x,y] p)=r:=by simp only [gE,Nd.kind,Nd.op,e];omega
  refine mO (yQ (by omega) ?_);rw [hr,fO,cI];show UnitAt r (aK (lE (rankT 10 o) (signT o) (pcN x) (pcN y))) (gK 10 o [zN x,zN y]) false;rw [e];refine qW (by omega) r6 (fun l=>?_) (ix.1 rfl) (iy.1 rfl) (eX hx) (eX hy);obtain⟨r',e',_,_,h3,h4⟩:=Cb ho l;have:r'=r:=by omega
  subst this;exact⟨h3,h4⟩
 | and x y p hx hy ix iy=>
  refine mO (yQ (by simp only [gE,Nd.kind,Nd.op];decide) ?_);rw [fO,cI];exact qW (r:=2) (by omega) (by omega) Ni (ix.1 rfl) (iy.1 rfl) (eX hx) (eX hy)
 | or x y p hx hy ix iy=>
  refine mO (yQ (by simp only [gE,Nd.kind,Nd.op];decide) ?_);rw [fO,cI];exact qW (r:=1) (by omega) (by omega) OI (ix.1 rfl) (iy.1 rfl) (eX hx) (eX hy)
 | get s x p hs hx ix=>
  refine mO (iH ?_ (by simp only [gE,Nd.kind,Nd.op];decide));rw [fO,cI];exact AE hx (ix.1 rfl)
 | index x y p hx hy ix iy=>
  refine mO (iH ?_ (by simp only [gE,Nd.kind,Nd.op];decide));rw [fO,cI];exact uN hx hy (ix.1 rfl) (iy.1 rfl) _
 | call x ks p hc hx hk ix ik=>
  refine mO (iH ?_ (by simp only [gE,Nd.kind,Nd.op];decide));rw [fO,cI];show Unit8 (aK (iG (pcN x) (if (pcN x).kind=13 then 9 else 8)++kU (ks.map pcN))) (hJ 15 (zN x::ks.map zN)) false false;rw [aZ,Nh];obtain⟨b,u⟩:=pI (ix.1 rfl) (eX hx) (if x.kind=13 then 9 else 8) (by split<;>omega);have hnc:decide (x.kind=13∧(if x.kind=13 then (9:Int) else 8)≤rankT x.kind x.op)=false:=by
   rw [decide_eq_false_iff_not];rintro⟨h1,h2⟩;rw [h1] at h2;simp [rankT] at h2
  rw [hnc] at u;exact Lg u (vT hk fun x hx=>(ik x hx).1 rfl) hc
 | meth s x ks p hs hc hx hk ix ik=>
  refine mO (iH ?_ (by simp only [gE,Nd.kind,Nd.op];decide));rw [fO,cI];show Unit8 (aK (sG (pcN x) s++kU (ks.map pcN))) (tN 16 s (zN x::ks.map zN)) false false;obtain⟨b,u⟩:=pI (ix.1 rfl) (eX hx) 8 (by omega);have:=Lh u s (vT hk fun x hx=>(ik x hx).1 rfl) hc;unfold sG;rw [aZ,aZ,gW,IP,nU,List.append_assoc];exact this
 | built o ks p ho hc hk ik=>
  refine mO (iH ?_ (by simp [gE,Nd.kind,rankT]));rw [fO,cI];exact GZ ho hc (vT hk fun x hx=>(ik x hx).1 rfl)
 | slet s x p hs hx ix=>
  refine sP ⟨⟨rH [108,101,116],_,rfl,by decide⟩,fun rest _=>?_⟩;rw [fO,cI];have hv:=(ix.1 rfl).one (eX hx);have hw:=hv.whole (by omega) (rest:=cY [59]::rest) (eI (by simp));have e:aK (stmtC 21 s ([x].map pcN))++rest=rH [108,101,116]::CW s::cY [61]::(aK (pcN x).e++(cY [59]::rest)):=by
   show aK (kw [108,101,116] :: .bl::nm s::(gV (pcN x)++[sg [59]]))++rest=_;rw [tU,jR,Ng,oG,gW,nU];simp
  rw [e];refine lF (by rw [kY];rfl) (by rw [kY];rfl) ?_;refine .up (h:=fun f=>(aS f 1 (aK (pcN x).e++(cY [59]::rest))).bind fun e _ l'=>.ok (.mk 21 0 0 s [] [e] 0) false l') (fun f=>?_) (.bind hw (.const _));rw [iK,kY,if_pos (by decide)];show kF false (CW s::cY [61]::(aK (pcN x).e++(cY [59]::rest))) _=_;rw [Nf,kQ];rfl
 | assign s x p hs hx ix=>
  have hn:BackE (.mk 5 0 0 s [] [] p):=iH (lT (t:=CW s) rfl rfl rfl fun f rest=>by rw [hH];rfl) (by simp only [gE,Nd.kind,Nd.op];decide);refine sP (sO (ts:=[CW s]) (e:=.mk 5 0 0 s [] [] 0) (hn.one (by simp only [gE,Nd.kind,Nd.op];decide)) ((ix.1 rfl).one (eX hx)) ?_ ?_)
  ·rw [cI];show aK (nm s::(gV (pcN x)++[sg [59]]))=_;rw [Ng,oG];rfl
  ·rw [fO];rfl
 | set s x y p hs hx hy ix iy=>
  have hg:=AE (s:=s) hx (ix.1 rfl);refine sP (sO (hg.at7.to (by omega) (by omega)) ((iy.1 rfl).one (eX hy)) ?_ ?_)
  ·rw [cI];show aK (sG (pcN x) s++gV (pcN y)++[sg [59]])=_;rw [List.append_assoc,aZ,oG];rfl
  ·rw [fO];rfl
 | setix x y z p hx hy hz ix iy iz=>
  have hg:=uN hx hy (ix.1 rfl) (iy.1 rfl) false;refine sP (sO (hg.at7.to (by omega) (by omega)) ((iz.1 rfl).one (eX hz)) ?_ ?_)
  ·rw [cI];show aK (mF (pcN x) (pcN y)++gV (pcN z)++[sg [59]])=_;rw [List.append_assoc,aZ,oG];rfl
  ·rw [fO];rfl
 | del s x p hs hx ix=>
  refine sP ⟨⟨rH [100,101,108,101,116,101],_,rfl,by decide⟩,fun rest _=>?_⟩;rw [fO,cI];have e:aK (stmtC 25 s ([x].map pcN))++rest=rH [100,101,108,101,116,101]::(aK (sG (pcN x) s)++(cY [59]::rest)):=by
   show aK (kw [100,101,108,101,116,101] :: .bl::(sG (pcN x) s++[sg [59]]))++rest=_;rw [tU,jR,aZ,gW,nU];simp
  rw [e];exact EP (AE hx (ix.1 rfl)) (by simp [tN,Nd.kind])
 | delix x y p hx hy ix iy=>
  refine sP ⟨⟨rH [100,101,108,101,116,101],_,rfl,by decide⟩,fun rest _=>?_⟩;rw [fO,cI];have e:aK (stmtC 26 bz ([x,y].map pcN))++rest=rH [100,101,108,101,116,101]::(aK (mF (pcN x) (pcN y))++(cY [59]::rest)):=by
   show aK (kw [100,101,108,101,116,101] :: .bl::(mF (pcN x) (pcN y)++[sg [59]]))++rest=_;rw [tU,jR,aZ,gW,nU];simp
  rw [e];exact EP (uN hx hy (ix.1 rfl) (iy.1 rfl) false) (by simp [hJ,Nd.kind])
 | print x p hx ix=>
  refine sP ⟨⟨rH [112,114,105,110,116],_,rfl,by decide⟩,fun rest _=>?_⟩;rw [fO,cI];have e:aK (stmtC 27 bz ([x].map pcN))++rest=rH [112,114,105,110,116]::(aK (pcN x).e++(cY [59]::rest)):=by
   show aK (kw [112,114,105,110,116] :: .bl::((pcN x).e++[sg [59]]))++rest=_;rw [tU,jR,aZ,gW,nU];simp
  rw [e];exact Cf (.inl ⟨rfl,rfl⟩) ((ix.1 rfl).one (eX hx))
 | ret x p hx ix=>
  refine sP ⟨⟨rH [114,101,116,117,114,110],_,rfl,by decide⟩,fun rest _=>?_⟩;rw [fO,cI];have e:aK (stmtC 31 bz ([x].map pcN))++rest=rH [114,101,116,117,114,110]::(aK (pcN x).e++(cY [59]::rest)):=by
   show aK (kw [114,101,116,117,114,110] :: .bl::((pcN x).e++[sg [59]]))++rest=_;rw [tU,jR,aZ,gW,nU];simp
  rw [e];exact Cf (.inr ⟨rfl,rfl⟩) ((ix.1 rfl).one (eX hx))
 | sexpr x p hx ix=>
  have hv:=(ix.1 rfl).one (eX hx);have e0:aK (pcN (.mk 32 0 0 bz [] [x] p)).s=aK (pcN x).e++[cY [59]]:=by
   rw [cI];show aK ((pcN x).e++[sg [59]])=_;rw [aZ];rfl
  refine sP ⟨by rw [e0];exact .ofE hv.1.app,fun rest _=>?_⟩;rw [e0,fO,List.append_assoc];exact lF (hv.1.app.not (by decide)) (hv.1.app.not (by decide)) (Bn hv.1 hv)
 | iff x y z p hx hy hz ix iy iz=>
  have hv:=(ix.1 rfl).one (eX hx);obtain⟨_,hby⟩:=iy.2.2 rfl;obtain⟨hhz,hbz⟩:=iz.2.2 rfl;have hzz:∃ ks,zN z=hJ 29 ks:=by
   cases hz with
   | block ks q hc hk=>exact⟨_,fO _ _ _ _ _ _ _⟩
  obtain⟨zks,hzz⟩:=hzz;refine sP ⟨by rw [cI];exact⟨rH [105,102],_,rfl,by decide⟩,fun rest hrest=>?_⟩;rw [fO,cI];have e:aK (stmtC 28 bz ([x,y,z].map pcN))++rest=rH [105,102]::cY [40]::(aK (pcN x).e++(cY [41]::(aK (pcN y).b++(aK (if (pcN z).has then .bl::kw [101,108,115,101] :: .bl::(pcN z).b else [])++rest)))):=by
   show aK (lI [105,102] (pcN x) (pcN y)++(if (pcN z).has then .bl::kw [101,108,115,101] :: .bl::(pcN z).b else []))++rest=_;unfold lI;rw [aZ,tU,jR,gW,aZ,gW,jR];simp
  rw [e];refine .up (h:=fun f=>(mS f (cY [40]::(aK (pcN x).e++(cY [41]::(aK (pcN y).b++(aK (if (pcN z).has then .bl::kw [101,108,115,101] :: .bl::(pcN z).b else [])++rest)))))).bind fun e _ l=>(dY f l).bind fun y _ l=>
   if bZ l [101,108,115,101] then (dY f l.tail).bind fun z _ l=>.ok (hJ 28 [e,y,z]) false l else .ok (hJ 28 [e,y,hJ 29 []]) false l) (fun f=>by rw [kI,kY];rfl) (.bind (IQ hv) (.bind (hby _) ?_))
  cases hh:(pcN z).has with
  | true=>
   refine .of (h:=fun f=>(dY f (aK (pcN z).b++rest)).bind fun z _ l=>.ok (hJ 28 [zN x,zN y,z]) false l) (fun f=>?_) (.bind (hbz rest) (.const _));rw [if_pos rfl,jR,tU,jR,List.cons_append,kY,if_pos (by decide)];rfl
  | false=>
   rw [hzz] at hhz;have hz0:zks=[]:=by
    rw [hh] at hhz;have:(hJ 29 zks).kids=zks:=rfl;rw [this] at hhz;cases zks with
    | nil=>rfl
    | cons=>cases hhz
   refine .of (h:=fun f=>.ok (hJ 28 [zN x,zN y,zN z]) false rest) (fun f=>?_) (.const _);have e3:(aK (if false=true then Pc.bl::kw [101,108,115,101]::Pc.bl::(pcN z).b else [])++rest)=rest:=rfl;rw [e3,hrest,hzz,hz0];rfl
 | whil x y p hx hy ix iy=>
  have hv:=(ix.1 rfl).one (eX hx);obtain⟨_,hby⟩:=iy.2.2 rfl;refine sP ⟨by rw [cI];exact⟨rH [119,104,105,108,101],_,rfl,by decide⟩,fun rest hrest=>?_⟩;rw [fO,cI];have e:aK (stmtC 30 bz ([x,y].map pcN))++rest=rH [119,104,105,108,101]::cY [40]::(aK (pcN x).e++(cY [41]::(aK (pcN y).b++rest))):=by
   show aK (lI [119,104,105,108,101] (pcN x) (pcN y))++rest=_;unfold lI;rw [tU,jR,gW,aZ,gW,jR];simp
  rw [e];refine .up (h:=fun f=>(mS f (cY [40]::(aK (pcN x).e++(cY [41]::(aK (pcN y).b++rest))))).bind fun e _ l=>(dY f l).bind fun y _ l=>.ok (hJ 30 [e,y]) false l) (fun f=>by rw [kI,kY,kY];rfl) (.bind (IQ hv) (.bind (hby _) (.const _)))
 | block ks p hc hk ik=>
  refine QD ⟨?_,fun rest=>?_⟩
  ·rw [cI,fO];show (!ks.isEmpty)=!(ks.map zN).isEmpty;cases ks<;>rfl
  ·rw [cI,fO];exact Ce (fun x hx=>(ik x hx).2.1 rfl) hc rest
def AG:Tok:=⟨6,⟨#[]⟩,0,0⟩
theorem Hc {t:Nd} (h:rightN t 3=true):Ev (fun f=>qF f true (aK (sI t)++[AG])) (.ok (zN t) false [AG]):=by
 have hr:=DG t 3 (by simp) h;cases hr with
 | block ks p hc hk=>
  have hk':∀ x∈ks,AC x:=fun x hx=>(OL (hk x hx)).2.1 rfl
  have e:aK (sI (.mk 29 0 0 bz [] ks p))++[AG]=aK (fC (ks.map pcN))++[AG]:=by
   show aK (pY (ks.map pcN))++[AG]=_;cases ks with
   | nil=>rfl
   | cons x r=>simp only [pY,fC,List.map_cons,List.flatMap_cons,aZ,List.cons_append,jR]
  have h1:Ev (fun f=>eG f (ks.map zN) [AG]) (.ok [] (ks.map zN) [AG]):=by
   refine .up (h:=fun _=>.ok [] (ks.map zN) [AG]) (fun f=>?_) (.const _);rw [eG,if_neg (by rintro⟨_,_,h⟩;exact h rfl)]
  have h2:=pM (rest:=[AG]) rfl ks [] hk' (by simpa using hc) _ h1;rw [e,fO];refine .of (h:=fun f=>((eG f [] (aK (fC (ks.map pcN))++[AG])).bind fun _ ks l=>.ok (hJ 29 ks) false l).bind fun e _ l=>if (cur l).kind=6 then .ok e false l else .bad l) (fun f=>rfl) (.bind (.lbind h2 (.const _)) (.of (fun f=>?_) (.const _)));rfl
theorem Cg {a b:ByteArray} (h:a.data.toList=b.data.toList):a=b:=by
 apply ByteArray.ext;exact Array.toList_inj.1 h
theorem Nm {a b:List ByteArray} (h:namesB a b=true):a=b:=by
 unfold namesB at h;rw [beq_iff_eq] at h;have inj:∀ x y:ByteArray,x.data.toList=y.data.toList→x=y:=fun _ _=>Cg
 induction a generalizing b with
 | nil=>cases b with
  | nil=>rfl
  | cons=>cases h
 | cons x r ih=>
  cases b with
  | nil=>cases h
  | cons y q=>
   simp only [List.map_cons,List.cons.injEq] at h;rw [inj _ _ h.1,ih h.2]
mutual
theorem Nn:∀ (a b:Nd),sameN a b=true↔zN a=zN b
 | .mk k o n s ns ks p,.mk k' o' n' s' ns' ks' p'=>by
  rw [sameN,zN,zN];simp only [Bool.and_eq_true,beq_iff_eq,Nd.mk.injEq,and_true];constructor
  ·rintro⟨h1,h2,h3,h4,h5,h6⟩;exact⟨h1,h2,h3,Cg h4,Nm h5,(Di ks ks').1 h6⟩
  ·rintro⟨h1,h2,h3,h4,h5,h6⟩;exact⟨h1,h2,h3,by rw [h4],by rw [h5];simp [namesB],(Di ks ks').2 h6⟩
theorem Di:∀ (a b:List Nd),kT a b=true↔zL a=zL b
 | [],[]=>by simp [kT,zL]
 | x::r,y::q=>by
  rw [kT,zL,zL,Bool.and_eq_true,List.cons.injEq];exact and_congr (Nn x y) (Di r q)
 | [],y::q=>by simp [kT,zL]
 | x::r,[]=>by simp [kT,zL]
end
theorem OM {a b:Tok} (h:bare a=bare b):zt a=zt b:=by
 unfold bare at h;simp only [Prod.mk.injEq] at h;unfold zt;rw [h.1,h.2.1,h.2.2]
theorem EQ:∀ {a b:List Tok},a.map bare=b.map bare→a.map zt=b.map zt
 | [],[],_=>rfl
 | x::r,y::q,h=>by
  simp only [List.map_cons,List.cons.injEq] at h ⊢;exact⟨OM h.1,EQ h.2⟩
 | [],y::q,h=>by cases h
 | x::r,[],h=>by cases h
theorem Ev.one {α:Type} {g:Nat→α} {a b:α} (h1:Ev g a) (h2:Ev g b):a=b:=by
 obtain⟨f1,h1⟩:=h1;obtain⟨f2,h2⟩:=h2;rw [← h1 (max f1 f2) (by omega),h2 (max f1 f2) (by omega)]
theorem IT (f:Nat) (l:List Tok):(qF f true l).z=qF f true (l.map zt):=by
 unfold qF;refine PR.bind_z (PL.bind_z ((QC f).stmts [] l) fun _ ks l=>oF (zK _ _)) fun e b l=>?_
 rw [De];exact iU rfl rfl
theorem zz (t:Nd):zN (zN t)=zN t:=by
 refine Nd.ind (P:=fun t=>zN (zN t)=zN t) ?_ t;intro k o n s ns ks p ih;have e:(ks.map zN).map zN=ks.map zN:=by rw [List.map_map];exact List.map_congr_left ih
 rw [fO,fO,e]
theorem Dj:∀ {l:List Pc},gN l→(aK l).length≤(laid l).length
 | [],_=>Nat.le_refl _
 | .bl::r,h=>by
  have:=Dj (l:=r) h;rw [bI];simp [aK];omega
 | .tk t::r,h=>by
  obtain⟨h1,h2,_,h4⟩:=h;have:=Dj (l:=r) h4;have h5:=List.length_pos_iff.2 (CZ h1 h2);rw [bI];simp [aK,Pc.text];omega
theorem AH:∀ l:List Pc,(kL l).length≤l.length
 | []=>Nat.le_refl _
 | .bl::r=>by have:=AH r;simp [kL];omega
 | .tk t::r=>Nat.le_refl _
theorem sQ:∀ l:List Pc,kL (kL l)=kL l
 | []=>rfl
 | .bl::r=>sQ r
 | .tk _::_=>rfl
theorem IU {s:ByteArray} {l:List Pc} {k:Nat} (hd:s.data.toList.drop k=laid l) (h:gN l):s.data.toList.drop (skipTo false s k)=laid (kL l):=by
 obtain⟨h1,h2,h3⟩:=BX l h;unfold skipTo;rw [hd,h1,← List.drop_drop,hd,h3]
theorem IV (s:ByteArray):∀ (m:Nat) (l:List Pc) (f k:Nat) (acc:List Tok),l.length≤m→s.data.toList.drop k=laid l→gN l→kL l=l→(aK l).length<f→acc.length≤600→
  (acc.length+(aK l).length≤600→∃ out,jI s f k acc=(out,0,0)∧out.map bare=(acc++aK l).map bare++[(6,⟨#[]⟩,0)])∧(600<acc.length+(aK l).length→∃ p,jI s f k acc=([],p,5))
 | m,[],f,k,acc,_,hd,_,_,hf,ha=>by
  obtain⟨f,rfl⟩:∃ f',f=f'+1:=⟨f - 1,by simp [aK] at hf;omega⟩
  have hk:s.size≤k:=by
   have:=congrArg List.length hd;rw [List.length_drop,cF] at this;simp [laid] at this;omega
  refine⟨fun _=>⟨_,BM hk,by simp [bare,aK]⟩,fun h=>by simp [aK] at h;omega⟩
 | m,.bl::r,f,k,acc,_,_,_,hs,_,_=>by
  have:=AH r;have h2:=congrArg List.length hs;simp [kL] at h2;omega
 | 0,.tk t::r,f,k,acc,hm,_,_,_,_,_=>by simp at hm
 | m+1,.tk t::r,f,k,acc,hm,hd,hfi,hs,hf,ha=>by
  obtain⟨f,rfl⟩:∃ f',f=f'+1:=⟨f - 1,by omega⟩
  obtain⟨h1,h6,hR,hfr⟩:=hfi;rw [bI] at hd;have hd1:s.data.toList.drop k=eL t++laid r:=hd;have hk:k<s.size:=by
   rcases Nat.lt_or_ge k s.size with h | h
   ·exact h
   ·rw [hX s k h] at hd1;exact absurd (List.append_eq_nil_iff.1 hd1.symm).1 (CZ h1 h6)
  have ho:cO (s.data.toList.drop k) k=(t.put k,k+(eL t).length,0):=by rw [hd1];exact vP h1 h6 _ hR _
  have ht:(aK (.tk t::r)).length=(aK r).length+1:=rfl;by_cases h600:acc.length=600
  ·refine⟨fun h=>by omega,fun _=>⟨k,Af hk ho rfl h600⟩⟩
  ·have hd2:s.data.toList.drop (k+(eL t).length)=laid r:=by
    rw [← List.drop_drop,hd1];simp
   have hd3:=IU hd2 hfr;have hm2:=Ag (f:=f) (acc:=acc) hk ho rfl h600;simp only at hm2;have ih:=IV s m (kL r) f _ (acc++[t.put k]) (by have:=AH r;simp at hm;omega) hd3 (uI hfr) (sQ r) (by rw [oT];omega) (by simp;omega);rw [hm2];rw [oT] at ih;have hb:bare (t.put k)=bare t:=rfl;refine⟨fun h=>?_,fun h=>?_⟩
   ·obtain⟨out,e1,e2⟩:=ih.1 (by simp;omega);refine⟨out,e1,?_⟩;rw [e2];simp [hb,aK]
   ·exact ih.2 (by simp;omega)
theorem No (l:List Pc) (s:ByteArray) (hs:s.data.toList=laid l) (hr:gN l) :
  (2000<s.size→tokOut s=([],0,3))∧(s.size≤2000→600<(aK l).length→∃ p,tokOut s=([],p,5))∧
  (s.size≤2000→(aK l).length≤600→∃ out,tokOut s=(out,0,0)∧out.map bare=(aK l).map bare++[(6,⟨#[]⟩,0)]):=by
 have hsz:s.size=(laid l).length:=by rw [← hs,cF]
 have hge:=Dj hr;have hd:=IU (s:=s) (k:=0) (by rw [List.drop_zero,hs]) hr;have h:=IV s _ (kL l) (s.size+1) _ [] (Nat.le_refl _) hd (uI hr) (sQ l) (by rw [oT];omega) (by simp);rw [oT] at h;refine⟨fun h1=>?_,fun h1 h2=>?_,fun h1 h2=>?_⟩
 ·unfold tokOut;rw [if_pos h1]
 ·obtain⟨p,hp⟩:=h.2 (by simpa using h2);exact⟨p,by unfold tokOut;rw [if_neg (by omega),hp]⟩
 ·obtain⟨out,e1,e2⟩:=h.1 (by simpa using h2);exact⟨out,by unfold tokOut;rw [if_neg (by omega),e1],by simpa using e2⟩
end Go.Proofs.YtdnnmjhfidimcaaGreatDoor
