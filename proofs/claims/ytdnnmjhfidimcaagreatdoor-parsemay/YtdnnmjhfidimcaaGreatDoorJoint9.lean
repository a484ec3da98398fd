/- The pieces of a right tree stand well beside each other. strings.Join, by the library's contract. -/
import Derived.Test.YtdnnmjhfidimcaaGreatDoorJoint8
import Derived.Test.YtdnnmjhfidimcaaGreatDoorJoint5
import Derived.Shelf.Strings.OnBuilder
import Derived.Lib.Join
import Derived.Test.YtdnnmjhfidimcaaGreatDoorJoint4
import Derived.Test.YtdnnmjhfidimcaaGreatDoorJoint2
namespace Go.Proofs.YtdnnmjhfidimcaaGreatDoor
open Go.RowKit
open Go.Shelf Go.RowKit
def hdB (c:UInt8):Bool:=c != 61&&c != 47
def kX (l:List Pc):Prop:=gN l∧laid l≠[]∧cM hdB (laid l)
theorem Aw {p:UInt8→Bool} {a b:List UInt8} (h:cM p a) (hne:a≠[]):cM p (a++b):=by
 cases a with
 | nil=>exact absurd rfl hne
 | cons c r=>exact lS (h c r rfl)
theorem jK {p q:UInt8→Bool} {a:List UInt8} (h:cM p a) (hpq:∀ c,p c=true→q c=true):cM q a:=fun c r e=>hpq c (h c r e)
theorem Da {c:UInt8} (h:jQ c=true):hdB c=true:=by simp only [jQ,Bool.and_eq_true] at h;unfold hdB;rw [Bool.and_eq_true];exact h.2
theorem Ax:∀ {a b:List Pc},gN a→gN b→cM jQ (laid b)→gN (a++b)
 | [],b,_,hb,_=>hb
 | .bl::r,b,ha,hb,hs=>Ax (a:=r) ha hb hs
 | .tk t::r,b,ha,hb,hs=>by
  obtain⟨h1,h2,h3,h4⟩:=ha;refine⟨h1,h2,?_,Ax h4 hb hs⟩;show cM (sJ t) (laid (r++b));rw [cD];by_cases he:laid r=[]
  ·rw [he];exact jK hs fun c hc=>tI hc
  ·exact Aw h3 he
theorem gD {a b:List Pc} (ha:kX a) (hb:gN b) (hs:cM jQ (laid b)):kX (a++b):=by
 obtain⟨h1,h2,h3⟩:=ha;refine⟨Ax h1 hb hs,?_,?_⟩
 ·rw [cD];intro e;exact h2 (List.append_eq_nil_iff.1 e).1
 ·rw [cD];exact Aw h3 h2
theorem dZ {x:List UInt8} (hx:x∈sgnL) {b:List Pc} (hb:gN b) (hh:cM hdB (laid b)):gN (sg x::b):=by
 refine⟨by simp [cY,cP,hx],by simp [cY],?_,hb⟩;exact jK hh fun c hc=>by unfold sJ;rw [if_neg (by simp [cY]),if_pos (by simp [cY])];exact hc
theorem kC {x:List UInt8} (hx:jG x=true) {b:List Pc} (hb:gN b) (hh:cM jQ (laid b)):gN (kw x::b):=
 ⟨by simp [rH,cP,hx],by simp [rH],jK hh fun _ hc=>tI hc,hb⟩
theorem vQ {s:ByteArray} (hs:properB s=true) {b:List Pc} (hb:gN b) (hh:cM jQ (laid b)):gN (nm s::b):=
 ⟨by unfold properB at hs;simpa [CW,cP] using hs,by simp [CW],jK hh fun _ hc=>tI hc,hb⟩
theorem Db {s:ByteArray} (hs:dH s=true) {b:List Pc} (hb:gN b) (hh:cM jQ (laid b)):gN (pp s::b):=by
 refine⟨?_,?_,jK hh fun _ hc=>tI hc,hb⟩
 ·unfold dH at hs;unfold Bm cP;cases jG s.data.toList<;>simp_all
 ·unfold Bm;cases jG s.data.toList<;>simp
theorem fW {b:List Pc} (hb:gN b):gN (.bl::b):=hb
theorem fX:gN []:=trivial
theorem eR {p:UInt8→Bool} {c:UInt8} {x:List UInt8} {b:List Pc} (h:p c=true):cM p (laid (sg (c::x)::b)):=by
 rw [bI,gM];exact lS h
theorem fY {p:UInt8→Bool} {b:List Pc} (h:p 32=true):cM p (laid (.bl::b)):=by
 rw [bI];exact lS h
theorem kP {p:UInt8→Bool} {c:UInt8} {x:List UInt8} {b:List Pc} (h:p c=true):cM p (laid (kw (c::x)::b)):=by
 rw [bI,kB];exact lS h
theorem Ld {c:UInt8} (h:bW c.toNat=true):hdB c=true:=by
 have h1:c≠61:=by intro e;subst e;cases h
 have h2:c≠47:=by intro e;subst e;cases h
 simp [hdB,h1,h2]
theorem BY {s:List UInt8} {R:List UInt8} (h:nameB s=true):cM hdB (s++R):=by
 obtain⟨b,r,e,hl,_⟩:=uE h;rw [e];exact lS (Ld hl)
theorem nP {s:ByteArray} (h:properB s=true):dH s=true:=by unfold properB at h;rw [Bool.and_eq_true] at h;exact h.1
theorem Dc {s:ByteArray} {b:List Pc} (h:dH s=true):cM hdB (laid (nm s::b)):=by rw [bI,qT];exact BY h
theorem IJ {s:ByteArray} {b:List Pc} (h:dH s=true):cM hdB (laid (pp s::b)):=by rw [bI,yO];exact BY h
theorem EE {c:UInt8} {x:List UInt8} {b:List Pc} : laid (sg (c::x)::b)≠[]:=by rw [bI,gM];simp
theorem pZ {c:UInt8} {x:List UInt8} {b:List Pc} : laid (kw (c::x)::b)≠[]:=by rw [bI,kB];simp
theorem Pu {s:ByteArray} {b:List Pc} (h:dH s=true):laid (nm s::b)≠[]:=by
 obtain⟨c,r,e,_,_⟩:=uE h;rw [bI,qT,e];simp
theorem mX {x:Px} (h:kX x.e) (r:Int):kX (iG x r):=by
 unfold iG;split
 ·exact h
 ·have h2:=gD h (dZ (x:=[41]) (by decide) fX (eZ _)) (eR (by decide));exact⟨dZ (by decide) h2.1 h2.2.2,EE,eR (by decide)⟩
theorem xS {R:List Pc} (hR:gN R) (hs:cM jQ (laid R)):∀ {l:List Px},(∀ x∈l,kX x.e)→gN (fJ l++R)∧cM jQ (laid (fJ l++R))
 | [],_=>⟨hR,hs⟩
 | x::l,h=>by
  have ih:=xS hR hs (l:=l) (fun y hy=>h y (by simp [hy]));have hx:=gD (h x (by simp)) ih.1 ih.2;have e:fJ (x::l)++R=sg [44] :: .bl::(x.e++(fJ l++R)):=by simp [fJ]
  rw [e];exact⟨dZ (by decide) (fW hx.1) (fY (by decide)),eR (by decide)⟩
theorem wV {l:List Px} (h:∀ x∈l,kX x.e) {R:List Pc} (hR:gN R) (hs:cM hdB (laid R)):gN (kU l++R)∧cM jQ (laid (kU l++R)):=by
 have hc:gN (sg [41]::R):=dZ (by decide) hR hs;have e:kU l++R=sg [40]::(mM l++(sg [41]::R)):=by simp [kU]
 rw [e];refine⟨?_,eR (by decide)⟩;cases l with
 | nil=>exact dZ (by decide) hc (eR (by decide))
 | cons x l=>
  have ih:=xS hc (eR (by decide)) (l:=l) (fun y hy=>h y (by simp [hy]));have hx:=gD (h x (by simp)) ih.1 ih.2;have e:mM (x::l)++(sg [41]::R)=x.e++(fJ l++(sg [41]::R)):=by simp [mM]
  rw [e];exact dZ (by decide) hx.1 hx.2.2
theorem xT {R:List Pc} (hR:gN R) (hs:cM jQ (laid R)):∀ {ns:List ByteArray} {l:List Px},(∀ s∈ns,dH s=true)→(∀ x∈l,kX x.e)→gN (fK ns l++R)∧cM jQ (laid (fK ns l++R))
 | [],l,_,_=>by cases l<;>exact⟨hR,hs⟩
 | s::ns,[],_,_=>⟨hR,hs⟩
 | s::ns,x::l,hn,h=>by
  have ih:=xT hR hs (ns:=ns) (l:=l) (fun y hy=>hn y (by simp [hy])) (fun y hy=>h y (by simp [hy]));have hx:=gD (h x (by simp)) ih.1 ih.2;have e:fK (s::ns) (x::l)++R=sg [44] :: .bl::pp s::sg [58] :: .bl::(x.e++(fK ns l++R)):=by simp [fK,sF]
  rw [e];exact⟨dZ (by decide) (fW (Db (hn s (by simp)) (dZ (by decide) (fW hx.1) (fY (by decide))) (eR (by decide)))) (fY (by decide)),eR (by decide)⟩
theorem MV {ns:List ByteArray} {l:List Px} (hn:∀ s∈ns,dH s=true) (h:∀ x∈l,kX x.e):kX (wS ns l):=by
 have hc:gN [sg [125]]:=dZ (by decide) fX (eZ _);have h0:kX [sg [123],sg [125]]:=⟨dZ (by decide) hc (eR (by decide)),EE,eR (by decide)⟩
 cases ns with
 | nil=>exact h0
 | cons s ns=>
  cases l with
  | nil=>exact h0
  | cons x l=>
   have ih:=xT hc (eR (by decide)) (ns:=ns) (l:=l) (fun y hy=>hn y (by simp [hy])) (fun y hy=>h y (by simp [hy]));have hx:=gD (h x (by simp)) ih.1 ih.2;have e:wS (s::ns) (x::l)=sg [123]::pp s::sg [58] :: .bl::(x.e++(fK ns l++[sg [125]])):=by simp [wS,sF]
   rw [e];exact⟨dZ (by decide) (Db (hn s (by simp)) (dZ (by decide) (fW hx.1) (fY (by decide))) (eR (by decide))) (IJ (hn s (by simp))),EE,eR (by decide)⟩
theorem Ay {R:List Pc} (hR:gN R) (hs:cM jQ (laid R)):∀ {ns:List ByteArray},(∀ s∈ns,properB s=true)→gN (mE ns++R)∧cM jQ (laid (mE ns++R))
 | [],_=>⟨hR,hs⟩
 | s::ns,h=>by
  have ih:=Ay hR hs (ns:=ns) (fun y hy=>h y (by simp [hy]));have e:mE (s::ns)++R=sg [44] :: .bl::nm s::(mE ns++R):=by simp [mE]
  rw [e];exact⟨dZ (by decide) (fW (vQ (h s (by simp)) ih.1 ih.2)) (fY (by decide)),eR (by decide)⟩
theorem sK {R:List Pc} (hR:gN R) (hs:cM jQ (laid R)):∀ {l:List Px},(∀ x∈l,kX x.s)→gN (fC l++R)∧cM jQ (laid (fC l++R))
 | [],_=>⟨hR,hs⟩
 | x::l,h=>by
  have ih:=sK hR hs (l:=l) (fun y hy=>h y (by simp [hy]));have hx:=gD (h x (by simp)) ih.1 ih.2;have e:fC (x::l)++R=.bl::(x.s++(fC l++R)):=by simp [fC]
  rw [e];exact⟨fW hx.1,fY (by decide)⟩
theorem Az {l:List Px} (h:∀ x∈l,kX x.s) {R:List Pc} (hR:gN R) (hs:cM hdB (laid R)):gN (blockC l++R)∧cM jQ (laid (blockC l++R)):=by
 have hc:gN (sg [125]::R):=dZ (by decide) hR hs;cases l with
 | nil=>exact⟨dZ (by decide) hc (eR (by decide)),eR (by decide)⟩
 | cons x l=>
  have ih:=sK (R:=.bl::sg [125]::R) (fW hc) (fY (by decide)) h;have e:blockC (x::l)++R=sg [123]::(fC (x::l)++(.bl::sg [125]::R)):=by simp [blockC]
  rw [e];exact⟨dZ (by decide) ih.1 (jK ih.2 fun c hc=>Da hc),eR (by decide)⟩
theorem vR {x:Px} (h:kX x.e) {s:ByteArray} (hs:dH s=true) {R:List Pc} (hR:gN R) (hr:cM jQ (laid R)):kX (sG x s++R):=by
 have e:sG x s++R=iG x 8++(sg [46]::pp s::R):=by simp [sG]
 rw [e];exact gD (mX h 8) (dZ (by decide) (Db hs hR hr) (IJ hs)) (eR (by decide))
theorem uJ {x y:Px} (h:kX x.e) (hy:kX y.e) {R:List Pc} (hR:gN R) (hr:cM hdB (laid R)):kX (mF x y++R):=by
 have e:mF x y++R=iG x 8++(sg [91]::(y.e++(sg [93]::R))):=by simp [mF]
 have hc:gN (sg [93]::R):=dZ (by decide) hR hr;have h2:=gD hy hc (eR (by decide));rw [e];exact gD (mX h 8) (dZ (by decide) h2.1 h2.2.2) (eR (by decide))
theorem oE {x:Px} (h:kX x.e) {R:List Pc} (hR:gN R) (hr:cM jQ (laid R)):gN (gV x++R)∧cM jQ (laid (gV x++R)):=by
 have h2:=gD h hR hr;exact⟨fW (dZ (by decide) (fW h2.1) (fY (by decide))),fY (by decide)⟩
theorem qV {x y:Px} (h:kX x.e) (hy:kX y.e) {r:Int} {g:List UInt8} (hg:g∈sgnL):kX (lE r g x y):=by
 have h2:=mX hy (r+1);exact gD (mX h r) (fW (dZ hg (fW h2.1) (fY (by decide)))) (fY (by decide))
theorem OE {o:Int} (h:1≤o∧o≤11):signT o∈sgnL:=by
 obtain rfl | rfl | rfl | rfl | rfl | rfl | rfl | rfl | rfl | rfl | rfl:o=1∨o=2∨o=3∨o=4∨o=5∨o=6∨o=7∨o=8∨o=9∨o=10∨o=11:=by omega
 all_goals decide
theorem MW {o:Int} (h:1≤o∧o≤7):jG (builtT o).1=true∧∃ c r,(builtT o).1=c::r∧hdB c=true:=by
 obtain rfl | rfl | rfl | rfl | rfl | rfl | rfl:o=1∨o=2∨o=3∨o=4∨o=5∨o=6∨o=7:=by omega
 all_goals exact⟨by decide,_,_,rfl,by decide⟩
def EF (a:Nat) (t:Nd):Prop:=
 (a=1→kX (pcN t).e)∧(a=2→kX (pcN t).s)∧(a=3→∀ R,gN R→cM hdB (laid R)→gN ((pcN t).b++R)∧cM jQ (laid ((pcN t).b++R)))
theorem mN {t:Nd} (h:kX (pcN t).e):EF 1 t:=⟨fun _=>h,fun h=>(by cases h),fun h=>(by cases h)⟩
theorem sL {t:Nd} (h:kX (pcN t).s):EF 2 t:=⟨fun h=>(by cases h),fun _=>h,fun h=>(by cases h)⟩
theorem tJ {ks:List Nd} (h:∀ x∈ks,EF 1 x):∀ x∈ks.map pcN,kX x.e:=by
 intro x hx;obtain⟨y,hy,rfl⟩:=List.mem_map.1 hx;exact (h y hy).1 rfl
theorem uK {ks:List Nd} (h:∀ x∈ks,EF 2 x):∀ x∈ks.map pcN,kX x.s:=by
 intro x hx;obtain⟨y,hy,rfl⟩:=List.mem_map.1 hx;exact (h y hy).2.1 rfl
theorem oU:cM jQ (laid []):=eZ _
theorem close_semi:gN [sg [59]]∧cM jQ (laid [sg [59]]):=⟨dZ (by decide) fX (eZ _),eR (by decide)⟩
theorem IK {a:Nat} {t:Nd} (h:Rt a t):EF a t:=by
 induction h with
 | null p=>exact mN ⟨kC (by decide) fX oU,pZ,kP (by decide)⟩
 | bool n p hn=>
  rcases hn with rfl | rfl
  ·exact mN ⟨kC (x:=[102,97,108,115,101]) (by decide) fX oU,pZ (c:=102),kP (c:=102) (by decide)⟩
  ·exact mN ⟨kC (x:=[116,114,117,101]) (by decide) fX oU,pZ (c:=116),kP (c:=116) (by decide)⟩
 | int n p hn=>
  have hr:cP ⟨3,⟨(digs n).toArray⟩,n,0⟩=true:=by simp [cP,hn]
  have hf:gN [.tk ⟨3,⟨(digs n).toArray⟩,n,0⟩]:=⟨hr,by simp,eZ _,trivial⟩
  have hne:=CZ hr (by simp);have e:(pcN (.mk 3 0 n bz [] [] p)).e=[.tk ⟨3,⟨(digs n).toArray⟩,n,0⟩]:=by rw [cI];rfl
  refine mN ?_;rw [e];have hl:laid [.tk ⟨3,⟨(digs n).toArray⟩,n,0⟩]=digs n:=by simp [laid,Pc.text,eL]
  refine⟨hf,?_,?_⟩
  ·rw [hl];simpa [eL] using hne
  ·rw [hl];intro c r e;have hall:(digs n).all kS=true:=by unfold digs;rw [if_neg (by omega)];exact yK _ _
   have:=List.all_eq_true.1 hall c (by rw [e];simp);have h1:c≠61:=by intro e;subst e;cases this
   have h2:c≠47:=by intro e;subst e;cases this
   simp [hdB,h1,h2]
 | str s p hs=>
  have hr:cP ⟨4,s,0,0⟩=true:=by simp [cP,hs]
  have e:(pcN (.mk 4 0 0 s [] [] p)).e=[.tk ⟨4,s,0,0⟩]:=by rw [cI];rfl
  have hl:laid [.tk ⟨4,s,0,0⟩]=34::(jH s.data.toList++[34]):=by simp [laid,Pc.text,eL,kV]
  refine mN ?_;rw [e];exact⟨⟨hr,by simp,eZ _,trivial⟩,by rw [hl];simp,by rw [hl];exact lS (by decide)⟩
 | name s p hs=>exact mN ⟨vQ hs fX oU,Pu (nP hs),Dc (nP hs)⟩
 | this p=>exact mN ⟨kC (by decide) fX oU,pZ,kP (by decide)⟩
 | obj ns ks p hl hm hns hk ih=>
  refine mN ?_;rw [cI];exact MV hns (tJ ih)
 | fn ns ks p hm hns hc hk ih=>
  refine mN ?_;rw [cI];have hb:=Az (uK ih) fX (eZ _);rw [List.append_nil] at hb;have h2:gN (sg [41] :: .bl::blockC (ks.map pcN)):=dZ (by decide) (fW hb.1) (fY (by decide));show kX (kw [102,110]::sg [40]::(nO ns++(sg [41] :: .bl::blockC (ks.map pcN))));have h3:gN (nO ns++(sg [41] :: .bl::blockC (ks.map pcN)))∧cM hdB (laid (nO ns++(sg [41] :: .bl::blockC (ks.map pcN)))):=by
   cases ns with
   | nil=>exact⟨h2,eR (by decide)⟩
   | cons s r=>
    have h4:=Ay h2 (eR (by decide)) (ns:=r) (fun y hy=>hns y (by simp [hy]));exact⟨vQ (hns s (by simp)) h4.1 h4.2,Dc (nP (hns s (by simp)))⟩
  exact⟨kC (by decide) (dZ (by decide) h3.1 h3.2) (eR (by decide)),pZ,kP (by decide)⟩
 | un o x p ho hx ih=>
  refine mN ?_;rw [cI];have h2:=mX (ih.1 rfl) 7;rcases ho with rfl | rfl
  ·exact⟨dZ (x:=[45]) (by decide) h2.1 h2.2.2,EE (c:=45),eR (c:=45) (by decide)⟩
  ·exact⟨dZ (x:=[33]) (by decide) h2.1 h2.2.2,EE (c:=33),eR (c:=33) (by decide)⟩
 | bin o x y p ho hx hy ix iy=>
  refine mN ?_;rw [cI];exact qV (ix.1 rfl) (iy.1 rfl) (OE ho)
 | and x y p hx hy ix iy=>
  refine mN ?_;rw [cI];exact qV (ix.1 rfl) (iy.1 rfl) (by decide)
 | or x y p hx hy ix iy=>
  refine mN ?_;rw [cI];exact qV (ix.1 rfl) (iy.1 rfl) (by decide)
 | get s x p hs hx ix=>
  refine mN ?_;rw [cI];have:=vR (ix.1 rfl) hs fX oU;rw [List.append_nil] at this;exact this
 | index x y p hx hy ix iy=>
  refine mN ?_;rw [cI];have:=uJ (ix.1 rfl) (iy.1 rfl) fX (eZ _);rw [List.append_nil] at this;exact this
 | call x ks p hc hx hk ix ik=>
  refine mN ?_;rw [cI];have:=wV (tJ ik) fX (eZ _);rw [List.append_nil] at this;exact gD (mX (ix.1 rfl) _) this.1 this.2
 | meth s x ks p hs hc hx hk ix ik=>
  refine mN ?_;rw [cI];have:=wV (tJ ik) fX (eZ _);rw [List.append_nil] at this;exact vR (ix.1 rfl) hs this.1 this.2
 | built o ks p ho hc hk ik=>
  refine mN ?_;rw [cI];obtain⟨hb,c,r,e,hh⟩:=MW ho;have:=wV (tJ ik) fX (eZ _);rw [List.append_nil] at this;refine⟨kC hb this.1 this.2,?_,?_⟩
  ·show laid (kw (builtT o).1::_)≠[];rw [e];exact pZ
  ·show cM hdB (laid (kw (builtT o).1::_));rw [e];exact kP hh
 | slet s x p hs hx ix=>
  refine sL ?_;rw [cI];have:=oE (ix.1 rfl) close_semi.1 close_semi.2;exact⟨kC (x:=[108,101,116]) (by decide) (fW (vQ hs this.1 this.2)) (fY (by decide)),pZ (c:=108),kP (c:=108) (by decide)⟩
 | assign s x p hs hx ix=>
  refine sL ?_;rw [cI];have:=oE (ix.1 rfl) close_semi.1 close_semi.2;exact⟨vQ hs this.1 this.2,Pu (nP hs),Dc (nP hs)⟩
 | set s x y p hs hx hy ix iy=>
  refine sL ?_;rw [cI];have:=oE (iy.1 rfl) close_semi.1 close_semi.2;show kX (sG (pcN x) s++gV (pcN y)++[sg [59]]);rw [List.append_assoc];exact vR (ix.1 rfl) hs this.1 this.2
 | setix x y z p hx hy hz ix iy iz=>
  refine sL ?_;rw [cI];have:=oE (iz.1 rfl) close_semi.1 close_semi.2;show kX (mF (pcN x) (pcN y)++gV (pcN z)++[sg [59]]);rw [List.append_assoc];exact uJ (ix.1 rfl) (iy.1 rfl) this.1 (jK this.2 fun c hc=>Da hc)
 | del s x p hs hx ix=>
  refine sL ?_;rw [cI];have:=vR (ix.1 rfl) hs close_semi.1 close_semi.2;exact⟨kC (x:=[100,101,108,101,116,101]) (by decide) (fW this.1) (fY (by decide)),pZ (c:=100),kP (c:=100) (by decide)⟩
 | delix x y p hx hy ix iy=>
  refine sL ?_;rw [cI];have:=uJ (ix.1 rfl) (iy.1 rfl) close_semi.1 (jK close_semi.2 fun c hc=>Da hc);exact⟨kC (x:=[100,101,108,101,116,101]) (by decide) (fW this.1) (fY (by decide)),pZ (c:=100),kP (c:=100) (by decide)⟩
 | print x p hx ix=>
  refine sL ?_;rw [cI];have:=gD (ix.1 rfl) close_semi.1 close_semi.2;exact⟨kC (x:=[112,114,105,110,116]) (by decide) (fW this.1) (fY (by decide)),pZ (c:=112),kP (c:=112) (by decide)⟩
 | iff x y z p hx hy hz ix iy iz=>
  refine sL ?_;rw [cI];have key:∀ R,gN R→cM hdB (laid R)→kX (lI [105,102] (pcN x) (pcN y)++R):=by
   intro R hR hh;have hb:=iy.2.2 rfl R hR hh;have h2:=gD (ix.1 rfl) (b:=sg [41] :: .bl::((pcN y).b++R)) (dZ (by decide) (fW hb.1) (fY (by decide))) (eR (by decide));have e:lI [105,102] (pcN x) (pcN y)++R=kw [105,102] :: .bl::sg [40]::((pcN x).e++(sg [41] :: .bl::((pcN y).b++R))):=by simp [lI]
   rw [e];exact⟨kC (by decide) (fW (dZ (by decide) h2.1 h2.2.2)) (fY (by decide)),pZ,kP (by decide)⟩
  show kX (lI [105,102] (pcN x) (pcN y)++(if (pcN z).has then .bl::kw [101,108,115,101] :: .bl::(pcN z).b else []));split
  ·have hz:=iz.2.2 rfl [] fX (eZ _);rw [List.append_nil] at hz;exact key _ (fW (kC (by decide) (fW hz.1) (fY (by decide)))) (fY (by decide))
  ·exact key _ fX (eZ _)
 | whil x y p hx hy ix iy=>
  refine sL ?_;rw [cI];have hb:=iy.2.2 rfl [] fX (eZ _);rw [List.append_nil] at hb;have h2:=gD (ix.1 rfl) (b:=sg [41] :: .bl::(pcN y).b) (dZ (by decide) (fW hb.1) (fY (by decide))) (eR (by decide));exact⟨kC (x:=[119,104,105,108,101]) (by decide) (fW (dZ (by decide) h2.1 h2.2.2)) (fY (by decide)),pZ (c:=119),kP (c:=119) (by decide)⟩
 | ret x p hx ix=>
  refine sL ?_;rw [cI];have:=gD (ix.1 rfl) close_semi.1 close_semi.2;exact⟨kC (x:=[114,101,116,117,114,110]) (by decide) (fW this.1) (fY (by decide)),pZ (c:=114),kP (c:=114) (by decide)⟩
 | sexpr x p hx ix=>
  refine sL ?_;rw [cI];exact gD (ix.1 rfl) close_semi.1 close_semi.2
 | block ks p hc hk ik=>
  refine⟨fun h=>(by cases h),fun h=>(by cases h),fun _ R hR hh=>?_⟩;rw [cI];exact Az (uK ik) hR hh
theorem GU {t:Nd} (h:rightN t 3=true):gN (sI t):=by
 have hr:=DG t 3 (by simp) h;cases hr with
 | block ks p hc hk=>
  show gN (pY (ks.map pcN));cases ks with
  | nil=>exact fX
  | cons x r=>
   have hk':∀ x∈r.map pcN,kX x.s:=uK fun y hy=>IK (hk y (by simp [hy]))
   have h2:=sK fX oU hk';rw [List.append_nil] at h2;exact (gD ((IK (hk x (by simp))).2.1 rfl) h2.1 h2.2).1
def Ju:Go.Shelf.Ren:=⟨fun | 156=>142 | 165=>163 | 166=>74 | 169=>28 | 240=>72 | 241=>177 | 276=>114 | 277=>189 | n=>n,fun | 31=>23 | 9=>9 | 3=>3 | 4=>4 | 0=>0 | 20=>20 | 72=>51 | 76=>100 | 70=>48 | 37=>49 | 75=>78 | 127=>82 | 164=>114 | 5=>5 | 80=>55 | n=>n,fun | n=>n⟩
theorem EW:Go.Proofs.Lays.n156 Tryz.prog Ju:={
 mixed:=by kernel_rfl
 f156:=Tryz.func142.trans (congrArg some (by kernel_rfl))
 f165:=Tryz.func163.trans (congrArg some (by kernel_rfl))
 f166:=Tryz.func74.trans (congrArg some (by kernel_rfl))
 f169:=Tryz.func28.trans (congrArg some (by kernel_rfl))
 f240:=Tryz.func72.trans (congrArg some (by kernel_rfl))
 f241:=Tryz.func177.trans (congrArg some (by kernel_rfl))
 f276:=Tryz.func114.trans (congrArg some (by kernel_rfl))
 f277:=Tryz.func189.trans (congrArg some (by kernel_rfl))
 t0:=Tryz.underlying0
 a0:=Tryz.isAgg0
 z0:=Tryz.sizeOf0
 v0:=Tryz.zeroValue0
 t3:=Tryz.underlying3
 a3:=Tryz.isAgg3
 z3:=Tryz.sizeOf3
 v3:=Tryz.zeroValue3
 t4:=Tryz.underlying4
 a4:=Tryz.isAgg4
 z4:=Tryz.sizeOf4
 v4:=Tryz.zeroValue4
 t9:=Tryz.underlying9
 a9:=Tryz.isAgg9
 z9:=Tryz.sizeOf9
 v9:=Tryz.zeroValue9
 t20:=Tryz.underlying20
 a20:=Tryz.isAgg20
 z20:=Tryz.sizeOf20
 v20:=Tryz.zeroValue20
 t31:=Tryz.underlying23
 a31:=Tryz.isAgg23
 z31:=Tryz.sizeOf23
 v31:=Tryz.zeroValue23
 t37:=Tryz.underlying49
 a37:=Tryz.isAgg49
 z37:=Tryz.sizeOf49
 v37:=Tryz.zeroValue49
 t70:=Tryz.underlying48
 a70:=Tryz.isAgg48
 z70:=Tryz.sizeOf48
 v70:=Tryz.zeroValue48
 t72:=Tryz.underlying51
 a72:=Tryz.isAgg51
 z72:=Tryz.sizeOf51
 v72:=Tryz.zeroValue51
 t75:=Tryz.underlying78
 a75:=Tryz.isAgg78
 z75:=Tryz.sizeOf78
 v75:=Tryz.zeroValue78
 t76:=Tryz.underlying100
 a76:=Tryz.isAgg100
 z76:=Tryz.sizeOf100
 v76:=Tryz.zeroValue100
 t127:=Tryz.underlying82
 a127:=Tryz.isAgg82
 z127:=Tryz.sizeOf82
 v127:=Tryz.zeroValue82
 t164:=Tryz.underlying114
 a164:=Tryz.isAgg114
 z164:=Tryz.sizeOf114
 v164:=Tryz.zeroValue114 }
theorem Cj:Builder.Extra Tryz.prog Ju:={
 sizeBuilder:=by kernel_rfl
 liesBuilder:=by kernel_rfl
 t5:=Tryz.underlying5
 a5:=Tryz.isAgg5
 z5:=Tryz.sizeOf5
 v5:=Tryz.zeroValue5
 infoByte:=by kernel_rfl
 cellsByte:=by kernel_rfl
 sizeByte:=by kernel_rfl
 neB5:=by decide }
theorem EX (ns:List ByteArray):Lib.join (ns.map (·.data.toList)) [44,32]=nN ns:=by
 cases ns with
 | nil=>rfl
 | cons s r=>
  rw [List.map_cons,Lib.join_cons];show s.data.toList++_=s.data.toList++r.flatMap fun x=>44::32::x.data.toList
  unfold Lib.joinTail;rw [List.flatMap_def,List.map_map];rfl
theorem Ic (B:Nat) (w:World) (v:Value) (ns:List ByteArray) (hB:B≤w.heap.size) (hS:Hid (cA B v ns w)) (hl:(nN ns).length≤1000000000) (hn:ns.length≤1000000000) :
  Calls Tryz.prog 142 #[v,.string ⟨#[44,32]⟩] w fun e w'=>e=.returned (.string ⟨(nN ns).toArray⟩)∧Below w.heap.size w w':=by
 rcases hS.out with ⟨ao,cap,rfl,rfl⟩ | ⟨b,off,cap,rfl,hb,hat,hc⟩
 ·exact (Any.strings_Join_none EW Cj ao cap ⟨#[44,32]⟩ w).mono fun e w' ⟨h1,h2⟩=>⟨h1,h2▸Below.refl _ _⟩
 ·have:=Any.strings_Join EW Cj b off cap ns ⟨#[44,32]⟩ w (fun j x hx=>by
   obtain⟨hj,rfl⟩:=List.getElem?_eq_some_iff.1 hx;exact hat j hj) (by omega) (by omega) hc (by show (Lib.join _ [44,32]).length≤_;rw [EX];omega)
  refine this.mono fun e w' ⟨h1,h2⟩=>⟨?_,h2⟩
  rw [h1];show Ending.returned (.string ⟨(Lib.join _ [44,32]).toArray⟩)=_;rw [EX]
end Go.Proofs.YtdnnmjhfidimcaaGreatDoor
