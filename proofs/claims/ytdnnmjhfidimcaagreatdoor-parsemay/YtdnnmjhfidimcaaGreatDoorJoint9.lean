/- The pieces of a right tree stand well beside each other. strings.Join, by the library's contract. -/
import Derived.Test.YtdnnmjhfidimcaaGreatDoorJoint8
import Derived.Test.YtdnnmjhfidimcaaGreatDoorJoint5
import Derived.Shelf.Strings.OnBuilder
import Derived.Lib.Join
import Derived.Test.YtdnnmjhfidimcaaGreatDoorJoint4
import Derived.Test.YtdnnmjhfidimcaaGreatDoorJoint2
namespace Go.Proofs.YtdnnmjhfidimcaaGreatDoor
open Go.RowKit

def hdB (c:UInt8):Bool:=c != 61&&c != 47
def Tze (l:List Pc):Prop:=hzd l∧laid l≠[]∧ozb hdB (laid l)

theorem xzm {p:UInt8→Bool} {a b:List UInt8} (h:ozb p a) (hne:a≠[]):ozb p (a++b):=by
 cases a with
 | nil=>exact absurd rfl hne
 | cons c r=>exact nzf (h c r rfl)
theorem ize {p q:UInt8→Bool} {a:List UInt8} (h:ozb p a) (hpq:∀ c,p c=true→q c=true):ozb q a:=fun c r e=>hpq c (h c r e)
theorem Lzo {c:UInt8} (h:oze c=true):hdB c=true:=by simp only [oze,Bool.and_eq_true] at h;unfold hdB;rw [Bool.and_eq_true];exact h.2

theorem yzm:∀ {a b:List Pc},hzd a→hzd b→ozb oze (laid b)→hzd (a++b)
 | [],b,_,hb,_=>hb
 | .bl::r,b,ha,hb,hs=>yzm (a:=r) ha hb hs
 | .tk t::r,b,ha,hb,hs=>by
  obtain⟨h1,h2,h3,h4⟩:=ha;refine⟨h1,h2,?_,yzm h4 hb hs⟩;show ozb (xzi t) (laid (r++b));rw [dzb];by_cases he:laid r=[]
  ·rw [he];exact ize hs fun c hc=>Wzi hc
  ·exact xzm h3 he
theorem Zzc {a b:List Pc} (ha:Tze a) (hb:hzd b) (hs:ozb oze (laid b)):Tze (a++b):=by
 obtain⟨h1,h2,h3⟩:=ha;refine⟨yzm h1 hb hs,?_,?_⟩
 ·rw [dzb];intro e;exact h2 (List.append_eq_nil_iff.1 e).1
 ·rw [dzb];exact xzm h3 h2

theorem Yzb {x:List UInt8} (hx:x∈sgnL) {b:List Pc} (hb:hzd b) (hh:ozb hdB (laid b)):hzd (sg x::b):=by
 refine⟨by simp [sgT,rzb,hx],by simp [sgT],?_,hb⟩;exact ize hh fun c hc=>by unfold xzi;rw [if_neg (by simp [sgT]),if_pos (by simp [sgT])];exact hc
theorem zze {x:List UInt8} (hx:eze x=true) {b:List Pc} (hb:hzd b) (hh:ozb oze (laid b)):hzd (kw x::b):=
 ⟨by simp [kwT,rzb,hx],by simp [kwT],ize hh fun _ hc=>Wzi hc,hb⟩
theorem czk {s:ByteArray} (hs:properB s=true) {b:List Pc} (hb:hzd b) (hh:ozb oze (laid b)):hzd (nm s::b):=
 ⟨by unfold properB at hs;simpa [nmT,rzb] using hs,by simp [nmT],ize hh fun _ hc=>Wzi hc,hb⟩
theorem Mzo {s:ByteArray} (hs:Izb s=true) {b:List Pc} (hb:hzd b) (hh:ozb oze (laid b)):hzd (pp s::b):=by
 refine⟨?_,?_,ize hh fun _ hc=>Wzi hc,hb⟩
 ·unfold Izb at hs;unfold ppT rzb;cases eze s.data.toList<;>simp_all
 ·unfold ppT;cases eze s.data.toList<;>simp
theorem Szc {b:List Pc} (hb:hzd b):hzd (.bl::b):=hb
theorem Tzc:hzd []:=trivial
theorem qzc {p:UInt8→Bool} {c:UInt8} {x:List UInt8} {b:List Pc} (h:p c=true):ozb p (laid (sg (c::x)::b)):=by
 rw [Lza,gzd];exact nzf h
theorem Uzc {p:UInt8→Bool} {b:List Pc} (h:p 32=true):ozb p (laid (.bl::b)):=by
 rw [Lza];exact nzf h
theorem Lze {p:UInt8→Bool} {c:UInt8} {x:List UInt8} {b:List Pc} (h:p c=true):ozb p (laid (kw (c::x)::b)):=by
 rw [Lza,yze];exact nzf h
theorem xzv {c:UInt8} (h:Xza c.toNat=true):hdB c=true:=by
 have h1:c≠61:=by intro e;subst e;cases h
 have h2:c≠47:=by intro e;subst e;cases h
 simp [hdB,h1,h2]
theorem Nzn {s:List UInt8} {R:List UInt8} (h:nameB s=true):ozb hdB (s++R):=by
 obtain⟨b,r,e,hl,_⟩:=qzj h;rw [e];exact nzf (xzv hl)
theorem izg {s:ByteArray} (h:properB s=true):Izb s=true:=by unfold properB at h;rw [Bool.and_eq_true] at h;exact h.1
theorem Nzo {s:ByteArray} {b:List Pc} (h:Izb s=true):ozb hdB (laid (nm s::b)):=by rw [Lza,Kzh];exact Nzn h
theorem lzt {s:ByteArray} {b:List Pc} (h:Izb s=true):ozb hdB (laid (pp s::b)):=by rw [Lza,xzl];exact Nzn h
theorem nzq {c:UInt8} {x:List UInt8} {b:List Pc} : laid (sg (c::x)::b)≠[]:=by rw [Lza,gzd];simp
theorem rzh {c:UInt8} {x:List UInt8} {b:List Pc} : laid (kw (c::x)::b)≠[]:=by rw [Lza,yze];simp
theorem yzz {s:ByteArray} {b:List Pc} (h:Izb s=true):laid (nm s::b)≠[]:=by
 obtain⟨c,r,e,_,_⟩:=qzj h;rw [Lza,Kzh,e];simp

theorem Rzf {x:Px} (h:Tze x.e) (r:Int):Tze (Fzd x r):=by
 unfold Fzd;split
 ·exact h
 ·have h2:=Zzc h (Yzb (x:=[41]) (by decide) Tzc (yzc _)) (qzc (by decide));exact⟨Yzb (by decide) h2.1 h2.2.2,nzq,qzc (by decide)⟩
theorem czl {R:List Pc} (hR:hzd R) (hs:ozb oze (laid R)):∀ {l:List Px},(∀ x∈l,Tze x.e)→hzd (Hzc l++R)∧ozb oze (laid (Hzc l++R))
 | [],_=>⟨hR,hs⟩
 | x::l,h=>by
  have ih:=czl hR hs (l:=l) (fun y hy=>h y (by simp [hy]));have hx:=Zzc (h x (by simp)) ih.1 ih.2;have e:Hzc (x::l)++R=sg [44] :: .bl::(x.e++(Hzc l++R)):=by simp [Hzc]
  rw [e];exact⟨Yzb (by decide) (Szc hx.1) (Uzc (by decide)),qzc (by decide)⟩
theorem Fzk {l:List Px} (h:∀ x∈l,Tze x.e) {R:List Pc} (hR:hzd R) (hs:ozb hdB (laid R)):hzd (Qze l++R)∧ozb oze (laid (Qze l++R)):=by
 have hc:hzd (sg [41]::R):=Yzb (by decide) hR hs;have e:Qze l++R=sg [40]::(Gzf l++(sg [41]::R)):=by simp [Qze]
 rw [e];refine⟨?_,qzc (by decide)⟩;cases l with
 | nil=>exact Yzb (by decide) hc (qzc (by decide))
 | cons x l=>
  have ih:=czl hc (qzc (by decide)) (l:=l) (fun y hy=>h y (by simp [hy]));have hx:=Zzc (h x (by simp)) ih.1 ih.2;have e:Gzf (x::l)++(sg [41]::R)=x.e++(Hzc l++(sg [41]::R)):=by simp [Gzf]
  rw [e];exact Yzb (by decide) hx.1 hx.2.2
theorem dzl {R:List Pc} (hR:hzd R) (hs:ozb oze (laid R)):∀ {ns:List ByteArray} {l:List Px},(∀ s∈ns,Izb s=true)→(∀ x∈l,Tze x.e)→hzd (Izc ns l++R)∧ozb oze (laid (Izc ns l++R))
 | [],l,_,_=>by cases l<;>exact⟨hR,hs⟩
 | s::ns,[],_,_=>⟨hR,hs⟩
 | s::ns,x::l,hn,h=>by
  have ih:=dzl hR hs (ns:=ns) (l:=l) (fun y hy=>hn y (by simp [hy])) (fun y hy=>h y (by simp [hy]));have hx:=Zzc (h x (by simp)) ih.1 ih.2;have e:Izc (s::ns) (x::l)++R=sg [44] :: .bl::pp s::sg [58] :: .bl::(x.e++(Izc ns l++R)):=by simp [Izc,tzi]
  rw [e];exact⟨Yzb (by decide) (Szc (Mzo (hn s (by simp)) (Yzb (by decide) (Szc hx.1) (Uzc (by decide))) (qzc (by decide)))) (Uzc (by decide)),qzc (by decide)⟩
theorem jzx {ns:List ByteArray} {l:List Px} (hn:∀ s∈ns,Izb s=true) (h:∀ x∈l,Tze x.e):Tze (Czk ns l):=by
 have hc:hzd [sg [125]]:=Yzb (by decide) Tzc (yzc _);have h0:Tze [sg [123],sg [125]]:=⟨Yzb (by decide) hc (qzc (by decide)),nzq,qzc (by decide)⟩
 cases ns with
 | nil=>exact h0
 | cons s ns=>
  cases l with
  | nil=>exact h0
  | cons x l=>
   have ih:=dzl hc (qzc (by decide)) (ns:=ns) (l:=l) (fun y hy=>hn y (by simp [hy])) (fun y hy=>h y (by simp [hy]));have hx:=Zzc (h x (by simp)) ih.1 ih.2;have e:Czk (s::ns) (x::l)=sg [123]::pp s::sg [58] :: .bl::(x.e++(Izc ns l++[sg [125]])):=by simp [Czk,tzi]
   rw [e];exact⟨Yzb (by decide) (Mzo (hn s (by simp)) (Yzb (by decide) (Szc hx.1) (Uzc (by decide))) (qzc (by decide))) (lzt (hn s (by simp))),nzq,qzc (by decide)⟩
theorem zzm {R:List Pc} (hR:hzd R) (hs:ozb oze (laid R)):∀ {ns:List ByteArray},(∀ s∈ns,properB s=true)→hzd (zzf ns++R)∧ozb oze (laid (zzf ns++R))
 | [],_=>⟨hR,hs⟩
 | s::ns,h=>by
  have ih:=zzm hR hs (ns:=ns) (fun y hy=>h y (by simp [hy]));have e:zzf (s::ns)++R=sg [44] :: .bl::nm s::(zzf ns++R):=by simp [zzf]
  rw [e];exact⟨Yzb (by decide) (Szc (czk (h s (by simp)) ih.1 ih.2)) (Uzc (by decide)),qzc (by decide)⟩
theorem yzi {R:List Pc} (hR:hzd R) (hs:ozb oze (laid R)):∀ {l:List Px},(∀ x∈l,Tze x.s)→hzd (Bzc l++R)∧ozb oze (laid (Bzc l++R))
 | [],_=>⟨hR,hs⟩
 | x::l,h=>by
  have ih:=yzi hR hs (l:=l) (fun y hy=>h y (by simp [hy]));have hx:=Zzc (h x (by simp)) ih.1 ih.2;have e:Bzc (x::l)++R=.bl::(x.s++(Bzc l++R)):=by simp [Bzc]
  rw [e];exact⟨Szc hx.1,Uzc (by decide)⟩
theorem Azm {l:List Px} (h:∀ x∈l,Tze x.s) {R:List Pc} (hR:hzd R) (hs:ozb hdB (laid R)):hzd (blockC l++R)∧ozb oze (laid (blockC l++R)):=by
 have hc:hzd (sg [125]::R):=Yzb (by decide) hR hs;cases l with
 | nil=>exact⟨Yzb (by decide) hc (qzc (by decide)),qzc (by decide)⟩
 | cons x l=>
  have ih:=yzi (R:=.bl::sg [125]::R) (Szc hc) (Uzc (by decide)) h;have e:blockC (x::l)++R=sg [123]::(Bzc (x::l)++(.bl::sg [125]::R)):=by simp [blockC]
  rw [e];exact⟨Yzb (by decide) ih.1 (ize ih.2 fun c hc=>Lzo hc),qzc (by decide)⟩
theorem dzk {x:Px} (h:Tze x.e) {s:ByteArray} (hs:Izb s=true) {R:List Pc} (hR:hzd R) (hr:ozb oze (laid R)):Tze (uzi x s++R):=by
 have e:uzi x s++R=Fzd x 8++(sg [46]::pp s::R):=by simp [uzi]
 rw [e];exact Zzc (Rzf h 8) (Yzb (by decide) (Mzo hs hR hr) (lzt hs)) (qzc (by decide))
theorem vzj {x y:Px} (h:Tze x.e) (hy:Tze y.e) {R:List Pc} (hR:hzd R) (hr:ozb hdB (laid R)):Tze (Azf x y++R):=by
 have e:Azf x y++R=Fzd x 8++(sg [91]::(y.e++(sg [93]::R))):=by simp [Azf]
 have hc:hzd (sg [93]::R):=Yzb (by decide) hR hr;have h2:=Zzc hy hc (qzc (by decide));rw [e];exact Zzc (Rzf h 8) (Yzb (by decide) h2.1 h2.2.2) (qzc (by decide))
theorem wzg {x:Px} (h:Tze x.e) {R:List Pc} (hR:hzd R) (hr:ozb oze (laid R)):hzd (ozd x++R)∧ozb oze (laid (ozd x++R)):=by
 have h2:=Zzc h hR hr;exact⟨Szc (Yzb (by decide) (Szc h2.1) (Uzc (by decide))),Uzc (by decide)⟩
theorem Mzh {x y:Px} (h:Tze x.e) (hy:Tze y.e) {r:Int} {g:List UInt8} (hg:g∈sgnL):Tze (Zze r g x y):=by
 have h2:=Rzf hy (r+1);exact Zzc (Rzf h r) (Szc (Yzb hg (Szc h2.1) (Uzc (by decide)))) (Uzc (by decide))
theorem Izy {o:Int} (h:1≤o∧o≤11):signT o∈sgnL:=by
 obtain rfl | rfl | rfl | rfl | rfl | rfl | rfl | rfl | rfl | rfl | rfl:o=1∨o=2∨o=3∨o=4∨o=5∨o=6∨o=7∨o=8∨o=9∨o=10∨o=11:=by omega
 all_goals decide
theorem kzx {o:Int} (h:1≤o∧o≤7):eze (builtT o).1=true∧∃ c r,(builtT o).1=c::r∧hdB c=true:=by
 obtain rfl | rfl | rfl | rfl | rfl | rfl | rfl:o=1∨o=2∨o=3∨o=4∨o=5∨o=6∨o=7:=by omega
 all_goals exact⟨by decide,_,_,rfl,by decide⟩

def ozq (a:Nat) (t:Nd):Prop:=
 (a=1→Tze (pcN t).e)∧(a=2→Tze (pcN t).s)∧(a=3→∀ R,hzd R→ozb hdB (laid R)→hzd ((pcN t).b++R)∧ozb oze (laid ((pcN t).b++R)))
theorem Hzf {t:Nd} (h:Tze (pcN t).e):ozq 1 t:=⟨fun _=>h,fun h=>(by cases h),fun h=>(by cases h)⟩
theorem zzi {t:Nd} (h:Tze (pcN t).s):ozq 2 t:=⟨fun h=>(by cases h),fun _=>h,fun h=>(by cases h)⟩
theorem Xzi {ks:List Nd} (h:∀ x∈ks,ozq 1 x):∀ x∈ks.map pcN,Tze x.e:=by
 intro x hx;obtain⟨y,hy,rfl⟩:=List.mem_map.1 hx;exact (h y hy).1 rfl
theorem wzj {ks:List Nd} (h:∀ x∈ks,ozq 2 x):∀ x∈ks.map pcN,Tze x.s:=by
 intro x hx;obtain⟨y,hy,rfl⟩:=List.mem_map.1 hx;exact (h y hy).2.1 rfl
theorem Mzg:ozb oze (laid []):=yzc _
theorem close_semi:hzd [sg [59]]∧ozb oze (laid [sg [59]]):=⟨Yzb (by decide) Tzc (yzc _),qzc (by decide)⟩

theorem mzt {a:Nat} {t:Nd} (h:Rt a t):ozq a t:=by
 induction h with
 | null p=>exact Hzf ⟨zze (by decide) Tzc Mzg,rzh,Lze (by decide)⟩
 | bool n p hn=>
  rcases hn with rfl | rfl
  ·exact Hzf ⟨zze (x:=[102,97,108,115,101]) (by decide) Tzc Mzg,rzh (c:=102),Lze (c:=102) (by decide)⟩
  ·exact Hzf ⟨zze (x:=[116,114,117,101]) (by decide) Tzc Mzg,rzh (c:=116),Lze (c:=116) (by decide)⟩
 | int n p hn=>
  have hr:rzb ⟨3,⟨(digs n).toArray⟩,n,0⟩=true:=by simp [rzb,hn]
  have hf:hzd [.tk ⟨3,⟨(digs n).toArray⟩,n,0⟩]:=⟨hr,by simp,yzc _,trivial⟩
  have hne:=Kzo hr (by simp);have e:(pcN (.mk 3 0 n bz [] [] p)).e=[.tk ⟨3,⟨(digs n).toArray⟩,n,0⟩]:=by rw [izb];rfl
  refine Hzf ?_;rw [e];have hl:laid [.tk ⟨3,⟨(digs n).toArray⟩,n,0⟩]=digs n:=by simp [laid,Pc.text,kzc]
  refine⟨hf,?_,?_⟩
  ·rw [hl];simpa [kzc] using hne
  ·rw [hl];intro c r e;have hall:(digs n).all Oze=true:=by unfold digs;rw [if_neg (by omega)];exact tzl _ _
   have:=List.all_eq_true.1 hall c (by rw [e];simp);have h1:c≠61:=by intro e;subst e;cases this
   have h2:c≠47:=by intro e;subst e;cases this
   simp [hdB,h1,h2]
 | str s p hs=>
  have hr:rzb ⟨4,s,0,0⟩=true:=by simp [rzb,hs]
  have e:(pcN (.mk 4 0 0 s [] [] p)).e=[.tk ⟨4,s,0,0⟩]:=by rw [izb];rfl
  have hl:laid [.tk ⟨4,s,0,0⟩]=34::(fze s.data.toList++[34]):=by simp [laid,Pc.text,kzc,Rze]
  refine Hzf ?_;rw [e];exact⟨⟨hr,by simp,yzc _,trivial⟩,by rw [hl];simp,by rw [hl];exact nzf (by decide)⟩
 | name s p hs=>exact Hzf ⟨czk hs Tzc Mzg,yzz (izg hs),Nzo (izg hs)⟩
 | this p=>exact Hzf ⟨zze (by decide) Tzc Mzg,rzh,Lze (by decide)⟩
 | obj ns ks p hl hm hns hk ih=>
  refine Hzf ?_;rw [izb];exact jzx hns (Xzi ih)
 | fn ns ks p hm hns hc hk ih=>
  refine Hzf ?_;rw [izb];have hb:=Azm (wzj ih) Tzc (yzc _);rw [List.append_nil] at hb;have h2:hzd (sg [41] :: .bl::blockC (ks.map pcN)):=Yzb (by decide) (Szc hb.1) (Uzc (by decide));show Tze (kw [102,110]::sg [40]::(hzg ns++(sg [41] :: .bl::blockC (ks.map pcN))));have h3:hzd (hzg ns++(sg [41] :: .bl::blockC (ks.map pcN)))∧ozb hdB (laid (hzg ns++(sg [41] :: .bl::blockC (ks.map pcN)))):=by
   cases ns with
   | nil=>exact⟨h2,qzc (by decide)⟩
   | cons s r=>
    have h4:=zzm h2 (qzc (by decide)) (ns:=r) (fun y hy=>hns y (by simp [hy]));exact⟨czk (hns s (by simp)) h4.1 h4.2,Nzo (izg (hns s (by simp)))⟩
  exact⟨zze (by decide) (Yzb (by decide) h3.1 h3.2) (qzc (by decide)),rzh,Lze (by decide)⟩
 | un o x p ho hx ih=>
  refine Hzf ?_;rw [izb];have h2:=Rzf (ih.1 rfl) 7;rcases ho with rfl | rfl
  ·exact⟨Yzb (x:=[45]) (by decide) h2.1 h2.2.2,nzq (c:=45),qzc (c:=45) (by decide)⟩
  ·exact⟨Yzb (x:=[33]) (by decide) h2.1 h2.2.2,nzq (c:=33),qzc (c:=33) (by decide)⟩
 | bin o x y p ho hx hy ix iy=>
  refine Hzf ?_;rw [izb];exact Mzh (ix.1 rfl) (iy.1 rfl) (Izy ho)
 | and x y p hx hy ix iy=>
  refine Hzf ?_;rw [izb];exact Mzh (ix.1 rfl) (iy.1 rfl) (by decide)
 | or x y p hx hy ix iy=>
  refine Hzf ?_;rw [izb];exact Mzh (ix.1 rfl) (iy.1 rfl) (by decide)
 | get s x p hs hx ix=>
  refine Hzf ?_;rw [izb];have:=dzk (ix.1 rfl) hs Tzc Mzg;rw [List.append_nil] at this;exact this
 | index x y p hx hy ix iy=>
  refine Hzf ?_;rw [izb];have:=vzj (ix.1 rfl) (iy.1 rfl) Tzc (yzc _);rw [List.append_nil] at this;exact this
 | call x ks p hc hx hk ix ik=>
  refine Hzf ?_;rw [izb];have:=Fzk (Xzi ik) Tzc (yzc _);rw [List.append_nil] at this;exact Zzc (Rzf (ix.1 rfl) _) this.1 this.2
 | meth s x ks p hs hc hx hk ix ik=>
  refine Hzf ?_;rw [izb];have:=Fzk (Xzi ik) Tzc (yzc _);rw [List.append_nil] at this;exact dzk (ix.1 rfl) hs this.1 this.2
 | built o ks p ho hc hk ik=>
  refine Hzf ?_;rw [izb];obtain⟨hb,c,r,e,hh⟩:=kzx ho;have:=Fzk (Xzi ik) Tzc (yzc _);rw [List.append_nil] at this;refine⟨zze hb this.1 this.2,?_,?_⟩
  ·show laid (kw (builtT o).1::_)≠[];rw [e];exact rzh
  ·show ozb hdB (laid (kw (builtT o).1::_));rw [e];exact Lze hh
 | slet s x p hs hx ix=>
  refine zzi ?_;rw [izb];have:=wzg (ix.1 rfl) close_semi.1 close_semi.2;exact⟨zze (x:=[108,101,116]) (by decide) (Szc (czk hs this.1 this.2)) (Uzc (by decide)),rzh (c:=108),Lze (c:=108) (by decide)⟩
 | assign s x p hs hx ix=>
  refine zzi ?_;rw [izb];have:=wzg (ix.1 rfl) close_semi.1 close_semi.2;exact⟨czk hs this.1 this.2,yzz (izg hs),Nzo (izg hs)⟩
 | set s x y p hs hx hy ix iy=>
  refine zzi ?_;rw [izb];have:=wzg (iy.1 rfl) close_semi.1 close_semi.2;show Tze (uzi (pcN x) s++ozd (pcN y)++[sg [59]]);rw [List.append_assoc];exact dzk (ix.1 rfl) hs this.1 this.2
 | setix x y z p hx hy hz ix iy iz=>
  refine zzi ?_;rw [izb];have:=wzg (iz.1 rfl) close_semi.1 close_semi.2;show Tze (Azf (pcN x) (pcN y)++ozd (pcN z)++[sg [59]]);rw [List.append_assoc];exact vzj (ix.1 rfl) (iy.1 rfl) this.1 (ize this.2 fun c hc=>Lzo hc)
 | del s x p hs hx ix=>
  refine zzi ?_;rw [izb];have:=dzk (ix.1 rfl) hs close_semi.1 close_semi.2;exact⟨zze (x:=[100,101,108,101,116,101]) (by decide) (Szc this.1) (Uzc (by decide)),rzh (c:=100),Lze (c:=100) (by decide)⟩
 | delix x y p hx hy ix iy=>
  refine zzi ?_;rw [izb];have:=vzj (ix.1 rfl) (iy.1 rfl) close_semi.1 (ize close_semi.2 fun c hc=>Lzo hc);exact⟨zze (x:=[100,101,108,101,116,101]) (by decide) (Szc this.1) (Uzc (by decide)),rzh (c:=100),Lze (c:=100) (by decide)⟩
 | print x p hx ix=>
  refine zzi ?_;rw [izb];have:=Zzc (ix.1 rfl) close_semi.1 close_semi.2;exact⟨zze (x:=[112,114,105,110,116]) (by decide) (Szc this.1) (Uzc (by decide)),rzh (c:=112),Lze (c:=112) (by decide)⟩
 | iff x y z p hx hy hz ix iy iz=>
  refine zzi ?_;rw [izb];have key:∀ R,hzd R→ozb hdB (laid R)→Tze (dzf [105,102] (pcN x) (pcN y)++R):=by
   intro R hR hh;have hb:=iy.2.2 rfl R hR hh;have h2:=Zzc (ix.1 rfl) (b:=sg [41] :: .bl::((pcN y).b++R)) (Yzb (by decide) (Szc hb.1) (Uzc (by decide))) (qzc (by decide));have e:dzf [105,102] (pcN x) (pcN y)++R=kw [105,102] :: .bl::sg [40]::((pcN x).e++(sg [41] :: .bl::((pcN y).b++R))):=by simp [dzf]
   rw [e];exact⟨zze (by decide) (Szc (Yzb (by decide) h2.1 h2.2.2)) (Uzc (by decide)),rzh,Lze (by decide)⟩
  show Tze (dzf [105,102] (pcN x) (pcN y)++(if (pcN z).has then .bl::kw [101,108,115,101] :: .bl::(pcN z).b else []));split
  ·have hz:=iz.2.2 rfl [] Tzc (yzc _);rw [List.append_nil] at hz;exact key _ (Szc (zze (by decide) (Szc hz.1) (Uzc (by decide)))) (Uzc (by decide))
  ·exact key _ Tzc (yzc _)
 | whil x y p hx hy ix iy=>
  refine zzi ?_;rw [izb];have hb:=iy.2.2 rfl [] Tzc (yzc _);rw [List.append_nil] at hb;have h2:=Zzc (ix.1 rfl) (b:=sg [41] :: .bl::(pcN y).b) (Yzb (by decide) (Szc hb.1) (Uzc (by decide))) (qzc (by decide));exact⟨zze (x:=[119,104,105,108,101]) (by decide) (Szc (Yzb (by decide) h2.1 h2.2.2)) (Uzc (by decide)),rzh (c:=119),Lze (c:=119) (by decide)⟩
 | ret x p hx ix=>
  refine zzi ?_;rw [izb];have:=Zzc (ix.1 rfl) close_semi.1 close_semi.2;exact⟨zze (x:=[114,101,116,117,114,110]) (by decide) (Szc this.1) (Uzc (by decide)),rzh (c:=114),Lze (c:=114) (by decide)⟩
 | sexpr x p hx ix=>
  refine zzi ?_;rw [izb];exact Zzc (ix.1 rfl) close_semi.1 close_semi.2
 | block ks p hc hk ik=>
  refine⟨fun h=>(by cases h),fun h=>(by cases h),fun _ R hR hh=>?_⟩;rw [izb];exact Azm (wzj ik) hR hh

theorem rzs {t:Nd} (h:rightN t 3=true):hzd (wzi t):=by
 have hr:=rzp t 3 (by simp) h;cases hr with
 | block ks p hc hk=>
  show hzd (qzh (ks.map pcN));cases ks with
  | nil=>exact Tzc
  | cons x r=>
   have hk':∀ x∈r.map pcN,Tze x.s:=wzj fun y hy=>mzt (hk y (by simp [hy]))
   have h2:=yzi Tzc Mzg hk';rw [List.append_nil] at h2;exact (Zzc ((mzt (hk x (by simp))).2.1 rfl) h2.1 h2.2).1

end Go.Proofs.YtdnnmjhfidimcaaGreatDoor

namespace Go.Proofs.YtdnnmjhfidimcaaGreatDoor
open Go.Shelf Go.RowKit

def Vzt:Go.Shelf.Ren:=⟨fun | 156=>142 | 165=>163 | 166=>74 | 169=>28 | 240=>72 | 241=>177 | 276=>114 | 277=>189 | n=>n,fun | 31=>23 | 9=>9 | 3=>3 | 4=>4 | 0=>0 | 20=>20 | 72=>51 | 76=>100 | 70=>48 | 37=>49 | 75=>78 | 127=>82 | 164=>114 | 5=>5 | 80=>55 | n=>n,fun | n=>n⟩
theorem Ezq:Go.Proofs.Lays.n156 Tryz.prog Vzt:={
 mixed:=by kernel_rfl
 f156:=Tryz.func142.trans (congrArg some (by kernel_rfl))
 f165:=Tryz.func163.trans (congrArg some (by kernel_rfl))
 f166:=Tryz.func74.trans (congrArg some (by kernel_rfl))
 f169:=Tryz.func28.trans (congrArg some (by kernel_rfl))
 f240:=Tryz.func72.trans (congrArg some (by kernel_rfl))
 f241:=Tryz.func177.trans (congrArg some (by kernel_rfl))
 f276:=Tryz.func114.trans (congrArg some (by kernel_rfl))
 f277:=Tryz.func189.trans (congrArg some (by kernel_rfl))
 t0:=Tryz.underlying0
 a0:=Tryz.isAgg0
 z0:=Tryz.sizeOf0
 v0:=Tryz.zeroValue0
 t3:=Tryz.underlying3
 a3:=Tryz.isAgg3
 z3:=Tryz.sizeOf3
 v3:=Tryz.zeroValue3
 t4:=Tryz.underlying4
 a4:=Tryz.isAgg4
 z4:=Tryz.sizeOf4
 v4:=Tryz.zeroValue4
 t9:=Tryz.underlying9
 a9:=Tryz.isAgg9
 z9:=Tryz.sizeOf9
 v9:=Tryz.zeroValue9
 t20:=Tryz.underlying20
 a20:=Tryz.isAgg20
 z20:=Tryz.sizeOf20
 v20:=Tryz.zeroValue20
 t31:=Tryz.underlying23
 a31:=Tryz.isAgg23
 z31:=Tryz.sizeOf23
 v31:=Tryz.zeroValue23
 t37:=Tryz.underlying49
 a37:=Tryz.isAgg49
 z37:=Tryz.sizeOf49
 v37:=Tryz.zeroValue49
 t70:=Tryz.underlying48
 a70:=Tryz.isAgg48
 z70:=Tryz.sizeOf48
 v70:=Tryz.zeroValue48
 t72:=Tryz.underlying51
 a72:=Tryz.isAgg51
 z72:=Tryz.sizeOf51
 v72:=Tryz.zeroValue51
 t75:=Tryz.underlying78
 a75:=Tryz.isAgg78
 z75:=Tryz.sizeOf78
 v75:=Tryz.zeroValue78
 t76:=Tryz.underlying100
 a76:=Tryz.isAgg100
 z76:=Tryz.sizeOf100
 v76:=Tryz.zeroValue100
 t127:=Tryz.underlying82
 a127:=Tryz.isAgg82
 z127:=Tryz.sizeOf82
 v127:=Tryz.zeroValue82
 t164:=Tryz.underlying114
 a164:=Tryz.isAgg114
 z164:=Tryz.sizeOf114
 v164:=Tryz.zeroValue114 }
theorem Xzn:Builder.Extra Tryz.prog Vzt:={
 sizeBuilder:=by kernel_rfl
 liesBuilder:=by kernel_rfl
 t5:=Tryz.underlying5
 a5:=Tryz.isAgg5
 z5:=Tryz.sizeOf5
 v5:=Tryz.zeroValue5
 infoByte:=by kernel_rfl
 cellsByte:=by kernel_rfl
 sizeByte:=by kernel_rfl
 neB5:=by decide }

theorem Fzq (ns:List ByteArray):Lib.join (ns.map (·.data.toList)) [44,32]=gzg ns:=by
 cases ns with
 | nil=>rfl
 | cons s r=>
  rw [List.map_cons,Lib.join_cons];show s.data.toList++_=s.data.toList++r.flatMap fun x=>44::32::x.data.toList
  unfold Lib.joinTail;rw [List.flatMap_def,List.map_map];rfl

theorem Jzs (B:Nat) (w:World) (v:Value) (ns:List ByteArray) (hB:B≤w.heap.size) (hS:Hid (azb B v ns w)) (hl:(gzg ns).length≤1000000000) (hn:ns.length≤1000000000) :
  Calls Tryz.prog 142 #[v,.string ⟨#[44,32]⟩] w fun e w'=>e=.returned (.string ⟨(gzg ns).toArray⟩)∧Below w.heap.size w w':=by
 rcases hS.out with ⟨ao,cap,rfl,rfl⟩ | ⟨b,off,cap,rfl,hb,hat,hc⟩
 ·exact (Any.strings_Join_none Ezq Xzn ao cap ⟨#[44,32]⟩ w).mono fun e w' ⟨h1,h2⟩=>⟨h1,h2▸Below.refl _ _⟩
 ·have:=Any.strings_Join Ezq Xzn b off cap ns ⟨#[44,32]⟩ w (fun j x hx=>by
   obtain⟨hj,rfl⟩:=List.getElem?_eq_some_iff.1 hx;exact hat j hj) (by omega) (by omega) hc (by show (Lib.join _ [44,32]).length≤_;rw [Fzq];omega)
  refine this.mono fun e w' ⟨h1,h2⟩=>⟨?_,h2⟩
  rw [h1];show Ending.returned (.string ⟨(Lib.join _ [44,32]).toArray⟩)=_;rw [Fzq]

end Go.Proofs.YtdnnmjhfidimcaaGreatDoor
