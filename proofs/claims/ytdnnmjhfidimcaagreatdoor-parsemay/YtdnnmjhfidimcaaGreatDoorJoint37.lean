/- What the writer writes of any right node. How long a text can be. -/
import Derived.Test.YtdnnmjhfidimcaaGreatDoorJoint36
import Derived.Test.YtdnnmjhfidimcaaGreatDoorJoint27
import Derived.Test.YtdnnmjhfidimcaaGreatDoorJoint28
import Derived.Test.YtdnnmjhfidimcaaGreatDoorJoint3
namespace Go.Proofs.YtdnnmjhfidimcaaGreatDoor
set_option maxHeartbeats 6400000
open Go.RowKit
set_option linter.unusedVariables false
theorem eF {a:Nat} {ks:List Nd} (h:(!ks.any fun x=>!rightN x a)=true):∀ x∈ks,rightN x a=true:=by
 intro x hx;simp only [Bool.not_eq_true',List.any_eq_false] at h;have:=h x hx;simpa using this
theorem NK (o:Int):(signT o).length≤2:=by
 unfold signT;split
 ·simp
 ·rw [List.getD_eq_getElem?_getD];cases h:tsgnL[o.toNat]? with
  | none=>simp
  | some x=>
   have hx:=List.mem_of_getElem? h;have:∀ y∈tsgnL,y.length≤2:=by decide
   simpa using this x hx
theorem Cm (o:Int):(builtT o).1.length≤100∧(0<(builtT o).2→(builtT o).1≠[]):=by
 unfold builtT;split
 ·simp
 ·rw [List.getD_eq_getElem?_getD];cases h:builtL[o.toNat]? with
  | none=>simp
  | some x=>
   have hx:=List.mem_of_getElem? h;have:∀ y∈builtL,y.1.length≤100∧(0<y.2→y.1≠[]):=by decide
   simpa using this x hx
theorem rA {s:ByteArray} (h:nameB s.data.toList=true):s.data.toList≠[]:=by
 intro e;rw [e] at h;cases h
theorem proper_name {s:ByteArray} (h:properB s=true):nameB s.data.toList=true:=by
 unfold properB at h;rw [Bool.and_eq_true] at h;exact h.1
theorem Pl (n:Int):digs n≠[]:=by
 unfold digs;split
 ·simp
 ·unfold yE;split<;>simp
theorem Lu (l:List UInt8):kV l≠[]:=by unfold kV;simp
theorem eA {B:Nat} {w:World} {t off:Nat} {ks:List Nd} (hat:jZ B w t ks off) (i:Nat) (hi:i<ks.length) (r:Nat) (hr:rightN ks[i] r=true) (hs:∀ x∈ks,dO x=true) (hc:bU ks≤1000000) :
  ∃ a1 q1 a2 q2,bK t (off+i*7) ks[i].kind ks[i].op ks[i].num ks[i].str (.slice a1 ks[i].names.length q1) (.slice a2 ks[i].kids.length q2) ks[i].pl w∧nF B ks[i] (.slice a1 ks[i].names.length q1) (.slice a2 ks[i].kids.length q2) r w:=by
 obtain⟨nv,kv,hn,hin⟩:=fZ hat i hi;obtain⟨a1,q1,a2,q2,rfl,rfl⟩:=bY hin;have hm:=List.getElem_mem hi;exact⟨a1,q1,a2,q2,hn,hin,hr,hs _ hm,Nat.le_trans (jA hm) hc⟩
theorem nH {k o n:Int} {s:ByteArray} {ns:List ByteArray} {ks:List Nd} {p:Int} {a:Nat} (h:rightN (.mk k o n s ns ks p) a=true):fP k o n s ns ks.length=true:=by
 cases hq:fP k o n s ns ks.length with
 | true=>rfl
 | false=>rw [uP hq] at h;cases h
theorem wC {k o n:Int} {s:ByteArray} {ns:List ByteArray} {c:Nat} (hk:cC k=false) (h:fP k o n s ns c=true):n=0:=by
 rw [cW,hk] at h;simp only [Bool.and_eq_true,cond_false,decide_eq_true_eq] at h;exact h.2.1
theorem Id (k o n:Int) (s:ByteArray) (ns:List ByteArray) (ks:List Nd) (p:Int) (ih:∀ x∈ks,dT x∧mK x):dT (.mk k o n s ns ks p):=by
 intro B b l w nv kv W O N hr hs hc hl;obtain⟨h600,h60,h100,hsk⟩:=lC hs;obtain⟨hS,hK⟩:=ndIn_mk.1 N.out;obtain⟨a1,q1,a2,q2,rfl,rfl⟩:=bY N.out;simp only [Nd.kind,Nd.op,Nd.num,Nd.str,Nd.pl,Nd.names,Nd.kids] at *
 have hcl:bU ks≤1000000:=by simp only [bH] at hc;omega
 rw [mC] at hl ⊢;simp only at hl ⊢;have hS':=aA hS;have hK':=aA hK;have h1M:s.size≤1000000:=by omega
 have ihe:∀ x∈ks,dT x:=fun x hx=>(ih x hx).1
 have ihs:∀ x∈ks,mK x:=fun x hx=>(ih x hx).2
 clear hs hc N ih;have hk:1≤k∧k≤17:=by
  rcases Decidable.em (1≤k∧k≤17) with h | h
  ·exact h
  ·rw [aQ,DC h] at hr;cases hr
 obtain⟨hk1,hk2⟩:=hk;rcases (show k=1∨k=2∨k=3∨k=4∨k=5∨k=6∨k=7∨k=8∨k=9∨k=10∨k=11∨k=12∨k=13∨k=14∨k=15∨k=16∨k=17 from by omega) with rfl | rfl | rfl | rfl | rfl | rfl | rfl | rfl | rfl | rfl | rfl | rfl | rfl | rfl | rfl | rfl | rfl
 ·clear hk1 hk2;have e:exprT 1 o n s ns (ks.map textN)=iJ 1 n s:=rfl;rw [e] at hl ⊢;have hn0:n=0:=wC (by decide) (nH hr);subst hn0;exact lN 1 o 0 s a1 _ q1 a2 _ q2 p (by decide) (by decide) (by decide) h1M (by simp [iJ]) B b l w W O hl
 ·clear hk1 hk2;have e:exprT 2 o n s ns (ks.map textN)=iJ 2 n s:=rfl;rw [e] at hl ⊢;rw [NC] at hr;simp only [Bool.and_eq_true,Bool.or_eq_true,decide_eq_true_eq] at hr;obtain⟨hbare,hn⟩:=hr;rcases hn with rfl | rfl
  ·exact lN 2 o 0 s a1 _ q1 a2 _ q2 p (by decide) (by decide) (by decide) h1M (by simp [iJ]) B b l w W O hl
  ·exact lN 2 o 1 s a1 _ q1 a2 _ q2 p (by decide) (by decide) (by decide) h1M (by simp [iJ]) B b l w W O hl
 ·clear hk1 hk2;have e:exprT 3 o n s ns (ks.map textN)=iJ 3 n s:=rfl;rw [e] at hl ⊢;rw [ND] at hr;simp only [Bool.and_eq_true,decide_eq_true_eq] at hr;obtain⟨hbare,hn1,hn2⟩:=hr;exact lN 3 o n s a1 _ q1 a2 _ q2 p (by decide) (by omega) (by omega) h1M (Pl n) B b l w W O hl
 ·clear hk1 hk2;have e:exprT 4 o n s ns (ks.map textN)=iJ 4 n s:=rfl;rw [e] at hl ⊢;have hn0:n=0:=wC (by decide) (nH hr);subst hn0;exact lN 4 o 0 s a1 _ q1 a2 _ q2 p (by decide) (by decide) (by decide) h1M (Lu _) B b l w W O hl
 ·clear hk1 hk2;have e:exprT 5 o n s ns (ks.map textN)=iJ 5 n s:=rfl;rw [e] at hl ⊢;have hn0:n=0:=wC (by decide) (nH hr);subst hn0;rw [NE,Bool.and_eq_true] at hr;exact lN 5 o 0 s a1 _ q1 a2 _ q2 p (by decide) (by decide) (by decide) h1M (rA (proper_name hr.2)) B b l w W O hl
 ·clear hk1 hk2;have e:exprT 6 o n s ns (ks.map textN)=iJ 6 n s:=rfl;rw [e] at hl ⊢;have hn0:n=0:=wC (by decide) (nH hr);subst hn0;exact lN 6 o 0 s a1 _ q1 a2 _ q2 p (by decide) (by decide) (by decide) h1M (by simp [iJ]) B b l w W O hl
 ·clear hk1 hk2;rw [NF] at hr;simp only [Bool.and_eq_true,decide_eq_true_eq] at hr;obtain⟨hbare,hnk,⟨hn40,hnm⟩,hk40,hall⟩:=hr;have har:=eF hall;have e:exprT 7 o n s ns (ks.map textN)=oZ ns (ks.map textN):=rfl;rw [e] at hl ⊢;exact Qp o n s ns ks p a1 q1 a2 q2 ihe har hsk hcl hnk (fun z hz=>List.all_eq_true.1 hnm z hz) h100 B b l w W O hS' hK' hl
 ·clear hk1 hk2;rw [NG] at hr;simp only [Bool.and_eq_true,decide_eq_true_eq] at hr;obtain⟨hbare,⟨hn6,hnm⟩,hk40,hall⟩:=hr;have har:=eF hall;have e:exprT 8 o n s ns (ks.map textN)=[102,110,40]++(nN ns++([41,32]++blockT (ks.map textN))):=rfl;rw [e] at hl ⊢;exact Qq o n s ns ks p a1 q1 a2 q2 ihs har hsk hcl h60 B b l w W O hS' hK' hl
 ·clear hk1 hk2;rw [NH] at hr;simp only [Bool.and_eq_true,Bool.or_eq_true,decide_eq_true_eq] at hr;obtain⟨hbare,ho,hlen,hall⟩:=hr;have har:=eF hall;obtain⟨x,rfl⟩:=List.length_eq_one_iff.1 hlen;obtain⟨t,off,rfl,htB,hat⟩:=gJ hK (by simp);obtain⟨xa1,xq1,xa2,xq2,Kx,Fx⟩:=eA hat 0 (by simp) 1 (har _ (by simp)) hsk hcl;rcases ho with rfl | rfl
  ·exact Ls n s a1 _ q1 t off q2 p x (ihe x (by simp)) xa1 xq1 xa2 xq2 B b l w W O htB (aA (by simpa using Kx)) (aA Fx) hl
  ·exact Lt n s a1 _ q1 t off q2 p x (ihe x (by simp)) xa1 xq1 xa2 xq2 B b l w W O htB (aA (by simpa using Kx)) (aA Fx) hl
 ·clear hk1 hk2;rw [IZ] at hr;simp only [Bool.and_eq_true,decide_eq_true_eq] at hr;obtain⟨hbare,hsg,hlen,hall⟩:=hr;have har:=eF hall;obtain⟨x,y,rfl⟩:=nK hlen;obtain⟨t,off,rfl,htB,hat⟩:=gJ hK (by simp);obtain⟨xa1,xq1,xa2,xq2,Kx,Fx⟩:=eA hat 0 (by simp) 1 (har _ (by simp)) hsk hcl;obtain⟨ya1,yq1,ya2,yq2,Ky,Fy⟩:=eA hat 1 (by simp) 1 (har _ (by simp)) hsk hcl;exact Pa o n s a1 _ q1 t off q2 p (signT o) rfl (by simpa using hsg) (NK o) x (ihe x (by simp)) xa1 xq1 xa2 xq2 y (ihe y (by simp)) ya1 yq1 ya2 yq2 B b l w W O htB (aA (by simpa using Kx)) (aA Fx) (aA (by simpa using Ky)) (aA Fy) hl
 ·clear hk1 hk2;rw [Ja] at hr;simp only [Bool.and_eq_true,decide_eq_true_eq] at hr;obtain⟨hbare,hlen,hall⟩:=hr;have har:=eF hall;obtain⟨x,y,rfl⟩:=nK hlen;obtain⟨t,off,rfl,htB,hat⟩:=gJ hK (by simp);obtain⟨xa1,xq1,xa2,xq2,Kx,Fx⟩:=eA hat 0 (by simp) 1 (har _ (by simp)) hsk hcl;obtain⟨ya1,yq1,ya2,yq2,Ky,Fy⟩:=eA hat 1 (by simp) 1 (har _ (by simp)) hsk hcl;exact Pb o n s a1 _ q1 t off q2 p x (ihe x (by simp)) xa1 xq1 xa2 xq2 y (ihe y (by simp)) ya1 yq1 ya2 yq2 B b l w W O htB (aA (by simpa using Kx)) (aA Fx) (aA (by simpa using Ky)) (aA Fy) hl
 ·clear hk1 hk2;rw [Jb] at hr;simp only [Bool.and_eq_true,decide_eq_true_eq] at hr;obtain⟨hbare,hlen,hall⟩:=hr;have har:=eF hall;obtain⟨x,y,rfl⟩:=nK hlen;obtain⟨t,off,rfl,htB,hat⟩:=gJ hK (by simp);obtain⟨xa1,xq1,xa2,xq2,Kx,Fx⟩:=eA hat 0 (by simp) 1 (har _ (by simp)) hsk hcl;obtain⟨ya1,yq1,ya2,yq2,Ky,Fy⟩:=eA hat 1 (by simp) 1 (har _ (by simp)) hsk hcl;exact Pd o n s a1 _ q1 t off q2 p x (ihe x (by simp)) xa1 xq1 xa2 xq2 y (ihe y (by simp)) ya1 yq1 ya2 yq2 B b l w W O htB (aA (by simpa using Kx)) (aA Fx) (aA (by simpa using Ky)) (aA Fy) hl
 ·clear hk1 hk2;rw [Jd] at hr;simp only [Bool.and_eq_true,decide_eq_true_eq] at hr;obtain⟨hbare,hnm,hlen,hall⟩:=hr;have har:=eF hall;obtain⟨x,rfl⟩:=List.length_eq_one_iff.1 hlen;obtain⟨t,off,rfl,htB,hat⟩:=gJ hK (by simp);obtain⟨xa1,xq1,xa2,xq2,Kx,Fx⟩:=eA hat 0 (by simp) 1 (har _ (by simp)) hsk hcl;exact Pe o n s a1 _ q1 t off q2 p (rA hnm) h1M x (ihe x (by simp)) xa1 xq1 xa2 xq2 B b l w W O htB (aA (by simpa using Kx)) (aA Fx) hl
 ·clear hk1 hk2;rw [Jc] at hr;simp only [Bool.and_eq_true,decide_eq_true_eq] at hr;obtain⟨hbare,hlen,hall⟩:=hr;have har:=eF hall;obtain⟨x,y,rfl⟩:=nK hlen;obtain⟨t,off,rfl,htB,hat⟩:=gJ hK (by simp);obtain⟨xa1,xq1,xa2,xq2,Kx,Fx⟩:=eA hat 0 (by simp) 1 (har _ (by simp)) hsk hcl;obtain⟨ya1,yq1,ya2,yq2,Ky,Fy⟩:=eA hat 1 (by simp) 1 (har _ (by simp)) hsk hcl;exact Pf o n s a1 _ q1 t off q2 p x (ihe x (by simp)) xa1 xq1 xa2 xq2 y (ihe y (by simp)) ya1 yq1 ya2 yq2 B b l w W O htB (aA (by simpa using Kx)) (aA Fx) (aA (by simpa using Ky)) (aA Fy) hl
 ·clear hk1 hk2;rw [Je] at hr;simp only [Bool.and_eq_true,decide_eq_true_eq] at hr;obtain⟨hbare,hlen,hall⟩:=hr;have har:=eF hall;obtain⟨x,r,rfl⟩:∃ x r,ks=x::r:=by
   cases ks with
   | nil=>simp at hlen
   | cons x r=>exact⟨x,r,rfl⟩
  have hcap:=(zB hK).resolve_left (by simp);obtain⟨t,off,rfl,htB,hat⟩:=gJ hK (by simp);obtain⟨xa1,xq1,xa2,xq2,Kx,Fx⟩:=eA hat 0 (by simp) 1 (har _ (by simp)) hsk hcl;have hcr:bU r≤1000000:=by simp only [bU] at hcl;omega
  have e:exprT 15 o n s ns ((x::r).map textN)=cB (textN x) (if x.kind=13 then 9 else 8)++iT (r.map textN):=by
   show cB (textN x) (if (textN x).kind=13 then 9 else 8)++iT (r.map textN)=_;rw [Ia]
  rw [e] at hl ⊢;exact Pi o n s a1 _ q1 t off q2 p _ x rfl (ihe x (by simp)) xa1 xq1 xa2 xq2 r (fun z hz=>ihe z (by simp [hz])) (fun z hz=>har z (by simp [hz])) (fun z hz=>hsk z (by simp [hz])) hcr (by simpa using hcap) B b l w W O htB (aA hat) (aA (by simpa using Kx)) (aA Fx) hl
 ·clear hk1 hk2;rw [Jf] at hr;simp only [Bool.and_eq_true,decide_eq_true_eq] at hr;obtain⟨hbare,hnm,hlen,hall⟩:=hr;have har:=eF hall;obtain⟨x,r,rfl⟩:∃ x r,ks=x::r:=by
   cases ks with
   | nil=>simp at hlen
   | cons x r=>exact⟨x,r,rfl⟩
  have hcap:=(zB hK).resolve_left (by simp);obtain⟨t,off,rfl,htB,hat⟩:=gJ hK (by simp);obtain⟨xa1,xq1,xa2,xq2,Kx,Fx⟩:=eA hat 0 (by simp) 1 (har _ (by simp)) hsk hcl;have hcr:bU r≤1000000:=by simp only [bU] at hcl;omega
  exact Ph o n s a1 _ q1 t off q2 p (rA hnm) h1M x (ihe x (by simp)) xa1 xq1 xa2 xq2 r (fun z hz=>ihe z (by simp [hz])) (fun z hz=>har z (by simp [hz])) (fun z hz=>hsk z (by simp [hz])) hcr (by simpa using hcap) B b l w W O htB (aA hat) (aA (by simpa using Kx)) (aA Fx) hl
 ·clear hk1 hk2;rw [Jg] at hr;simp only [Bool.and_eq_true,decide_eq_true_eq] at hr;obtain⟨hbare,hbp,hlen,hall⟩:=hr;have har:=eF hall;exact Pg o n s ns ks p a1 q1 a2 q2 ihe har hsk hcl (builtT o).1 (builtT o).2 rfl ((Cm o).2 hbp) (Cm o).1 B b l w W O hS' hK' hl
theorem Cn (x:Nd):(textN x).has=!x.kids.isEmpty:=by cases x;rw [mC];rfl
theorem Pm (x:Nd):(textN x).b=blockT (x.kids.map textN):=by cases x;rw [mC];rfl
theorem nA {y:Nd} (h:rightN y 3=true):∀ q∈y.kids,rightN q 2=true:=by
 obtain⟨k,o,n,s,ns,ks,p⟩:=y;have hk:k=29:=by
  rcases Decidable.em (k=29) with e | e
  ·exact e
  ·rw [aQ,DB e] at h;cases h
 subst hk;rw [Jq] at h;simp only [Bool.and_eq_true,decide_eq_true_eq] at h;exact eF h.2.2
theorem Ie (k o n:Int) (s:ByteArray) (ns:List ByteArray) (ks:List Nd) (p:Int) (ih:∀ x∈ks,dT x∧mK x) (ihk:∀ x∈ks,∀ q∈x.kids,mK q):mK (.mk k o n s ns ks p):=by
 intro B b l w nv kv W O N hr hs hc hl;obtain⟨h600,h60,h100,hsk⟩:=lC hs;obtain⟨hS,hK⟩:=ndIn_mk.1 N.out;obtain⟨a1,q1,a2,q2,rfl,rfl⟩:=bY N.out;simp only [Nd.kind,Nd.op,Nd.num,Nd.str,Nd.pl,Nd.names,Nd.kids] at *
 have hcl:bU ks≤1000000:=by simp only [bH] at hc;omega
 rw [mC] at hl ⊢;simp only at hl ⊢;have hS':=aA hS;have hK':=aA hK;have h1M:s.size≤1000000:=by omega
 have ihe:∀ x∈ks,dT x:=fun x hx=>(ih x hx).1
 have ihs:∀ x∈ks,mK x:=fun x hx=>(ih x hx).2
 clear hs hc N ih;have hk:(21≤k∧k≤32)∧k≠29:=by
  rcases Decidable.em ((21≤k∧k≤32)∧k≠29) with h | h
  ·exact h
  ·rw [aQ,DD (by omega)] at hr;cases hr
 obtain⟨⟨hk1,hk2⟩,hk3⟩:=hk;rcases (show k=21∨k=22∨k=23∨k=24∨k=25∨k=26∨k=27∨k=28∨k=30∨k=31∨k=32 from by omega) with rfl | rfl | rfl | rfl | rfl | rfl | rfl | rfl | rfl | rfl | rfl
 ·clear hk1 hk2 hk3;rw [Jh] at hr;simp only [Bool.and_eq_true,decide_eq_true_eq] at hr;obtain⟨hbare,hnm,hlen,hall⟩:=hr;have har:=eF hall;obtain⟨x,rfl⟩:=List.length_eq_one_iff.1 hlen;obtain⟨t,off,rfl,htB,hat⟩:=gJ hK (by simp);obtain⟨xa1,xq1,xa2,xq2,Kx,Fx⟩:=eA hat 0 (by simp) 1 (har _ (by simp)) hsk hcl;exact wB 21 (by decide) (by decide) _ o n s _ _ p B b l w W O (aA fun w' N' W' O' h=>OR o n s a1 _ q1 t off q2 p (rA (proper_name hnm)) h1M x (ihe x (by simp)) xa1 xq1 xa2 xq2 B b l w' W' O' htB (aA (aG (by simpa using Kx) htB N'.below)) (aA (aE Fx N')) h) hl
 ·clear hk1 hk2 hk3;rw [Ji] at hr;simp only [Bool.and_eq_true,decide_eq_true_eq] at hr;obtain⟨hbare,hnm,hlen,hall⟩:=hr;have har:=eF hall;obtain⟨x,rfl⟩:=List.length_eq_one_iff.1 hlen;obtain⟨t,off,rfl,htB,hat⟩:=gJ hK (by simp);obtain⟨xa1,xq1,xa2,xq2,Kx,Fx⟩:=eA hat 0 (by simp) 1 (har _ (by simp)) hsk hcl;exact wB 22 (by decide) (by decide) _ o n s _ _ p B b l w W O (aA fun w' N' W' O' h=>OS o n s a1 _ q1 t off q2 p (rA (proper_name hnm)) h1M x (ihe x (by simp)) xa1 xq1 xa2 xq2 B b l w' W' O' htB (aA (aG (by simpa using Kx) htB N'.below)) (aA (aE Fx N')) h) hl
 ·clear hk1 hk2 hk3;rw [Jj] at hr;simp only [Bool.and_eq_true,decide_eq_true_eq] at hr;obtain⟨hbare,hnm,hlen,hall⟩:=hr;have har:=eF hall;obtain⟨x,y,rfl⟩:=nK hlen;obtain⟨t,off,rfl,htB,hat⟩:=gJ hK (by simp);obtain⟨xa1,xq1,xa2,xq2,Kx,Fx⟩:=eA hat 0 (by simp) 1 (har _ (by simp)) hsk hcl;obtain⟨ya1,yq1,ya2,yq2,Ky,Fy⟩:=eA hat 1 (by simp) 1 (har _ (by simp)) hsk hcl;exact wB 23 (by decide) (by decide) _ o n s _ _ p B b l w W O (aA fun w' N' W' O' h=>OT o n s a1 _ q1 t off q2 p (rA hnm) h1M x (ihe x (by simp)) xa1 xq1 xa2 xq2 y (ihe y (by simp)) ya1 yq1 ya2 yq2 B b l w' W' O' htB (aA (aG (by simpa using Kx) htB N'.below)) (aA (aE Fx N')) (aA (aG (by simpa using Ky) htB N'.below)) (aA (aE Fy N')) h) hl
 ·clear hk1 hk2 hk3;rw [Jk] at hr;simp only [Bool.and_eq_true,decide_eq_true_eq] at hr;obtain⟨hbare,hlen,hall⟩:=hr;have har:=eF hall;obtain⟨x,y,z,rfl⟩:=tW hlen;obtain⟨t,off,rfl,htB,hat⟩:=gJ hK (by simp);obtain⟨xa1,xq1,xa2,xq2,Kx,Fx⟩:=eA hat 0 (by simp) 1 (har _ (by simp)) hsk hcl;obtain⟨ya1,yq1,ya2,yq2,Ky,Fy⟩:=eA hat 1 (by simp) 1 (har _ (by simp)) hsk hcl;obtain⟨za1,zq1,za2,zq2,Kz,Fz⟩:=eA hat 2 (by simp) 1 (har _ (by simp)) hsk hcl;exact wB 24 (by decide) (by decide) _ o n s _ _ p B b l w W O (aA fun w' N' W' O' h=>OU o n s a1 _ q1 t off q2 p x (ihe x (by simp)) xa1 xq1 xa2 xq2 y (ihe y (by simp)) ya1 yq1 ya2 yq2 z (ihe z (by simp)) za1 zq1 za2 zq2 B b l w' W' O' htB (aA (aG (by simpa using Kx) htB N'.below)) (aA (aE Fx N')) (aA (aG (by simpa using Ky) htB N'.below)) (aA (aE Fy N')) (aA (aG (by simpa using Kz) htB N'.below)) (aA (aE Fz N')) h) hl
 ·clear hk1 hk2 hk3;rw [Jl] at hr;simp only [Bool.and_eq_true,decide_eq_true_eq] at hr;obtain⟨hbare,hnm,hlen,hall⟩:=hr;have har:=eF hall;obtain⟨x,rfl⟩:=List.length_eq_one_iff.1 hlen;obtain⟨t,off,rfl,htB,hat⟩:=gJ hK (by simp);obtain⟨xa1,xq1,xa2,xq2,Kx,Fx⟩:=eA hat 0 (by simp) 1 (har _ (by simp)) hsk hcl;exact wB 25 (by decide) (by decide) _ o n s _ _ p B b l w W O (aA fun w' N' W' O' h=>OV o n s a1 _ q1 t off q2 p (rA hnm) h1M x (ihe x (by simp)) xa1 xq1 xa2 xq2 B b l w' W' O' htB (aA (aG (by simpa using Kx) htB N'.below)) (aA (aE Fx N')) h) hl
 ·clear hk1 hk2 hk3;rw [Jm] at hr;simp only [Bool.and_eq_true,decide_eq_true_eq] at hr;obtain⟨hbare,hlen,hall⟩:=hr;have har:=eF hall;obtain⟨x,y,rfl⟩:=nK hlen;obtain⟨t,off,rfl,htB,hat⟩:=gJ hK (by simp);obtain⟨xa1,xq1,xa2,xq2,Kx,Fx⟩:=eA hat 0 (by simp) 1 (har _ (by simp)) hsk hcl;obtain⟨ya1,yq1,ya2,yq2,Ky,Fy⟩:=eA hat 1 (by simp) 1 (har _ (by simp)) hsk hcl;exact wB 26 (by decide) (by decide) _ o n s _ _ p B b l w W O (aA fun w' N' W' O' h=>OW o n s a1 _ q1 t off q2 p x (ihe x (by simp)) xa1 xq1 xa2 xq2 y (ihe y (by simp)) ya1 yq1 ya2 yq2 B b l w' W' O' htB (aA (aG (by simpa using Kx) htB N'.below)) (aA (aE Fx N')) (aA (aG (by simpa using Ky) htB N'.below)) (aA (aE Fy N')) h) hl
 ·clear hk1 hk2 hk3;rw [Jn] at hr;simp only [Bool.and_eq_true,decide_eq_true_eq] at hr;obtain⟨hbare,hlen,hall⟩:=hr;have har:=eF hall;obtain⟨x,rfl⟩:=List.length_eq_one_iff.1 hlen;obtain⟨t,off,rfl,htB,hat⟩:=gJ hK (by simp);obtain⟨xa1,xq1,xa2,xq2,Kx,Fx⟩:=eA hat 0 (by simp) 1 (har _ (by simp)) hsk hcl;exact wB 27 (by decide) (by decide) _ o n s _ _ p B b l w W O (aA fun w' N' W' O' h=>OX o n s a1 _ q1 t off q2 p x (ihe x (by simp)) xa1 xq1 xa2 xq2 B b l w' W' O' htB (aA (aG (by simpa using Kx) htB N'.below)) (aA (aE Fx N')) h) hl
 ·clear hk1 hk2 hk3;have hlen:ks.length=3:=by
   rcases Decidable.em (ks.length=3) with h | h
   ·exact h
   ·rw [AM h] at hr;cases hr
  obtain⟨x,y,z,rfl⟩:=tW hlen;rw [Jr] at hr;simp only [Bool.and_eq_true] at hr;obtain⟨hbare,hr1,hr2,hr3⟩:=hr;obtain⟨t,off,rfl,htB,hat⟩:=gJ hK (by simp);obtain⟨xa1,xq1,xa2,xq2,Kx,Fx⟩:=eA hat 0 (by simp) 1 hr1 hsk hcl;obtain⟨ya1,yq1,ya2,yq2,Ky,Fy⟩:=eA hat 1 (by simp) 3 hr2 hsk hcl;obtain⟨za1,zq1,za2,zq2,Kz,Fz⟩:=eA hat 2 (by simp) 3 hr3 hsk hcl;by_cases hz0:z.kids.length=0
  ·have e:stmtT 28 s ([x,y,z].map textN)=dN [105,102] (textN x) (textN y):=by
    have hh:(textN z).has=false:=by rw [Cn,List.isEmpty_iff.2 (List.length_eq_zero_iff.1 hz0)];rfl
    show dN [105,102] (textN x) (textN y)++(if (textN z).has then _ else [])=_;rw [hh];simp
   rw [e] at hl ⊢;exact Pj o n s a1 _ q1 t off q2 p x (ihe x (by simp)) xa1 xq1 xa2 xq2 y (ihk y (by simp)) (nA hr2) ya1 yq1 ya2 yq2 z (ihk z (by simp)) (nA hr3) za1 zq1 za2 zq2 B b l w W O htB (aA (by simpa using Kx)) (aA Fx) (aA (by simpa using Ky)) (aA Fy) (aA (by simpa using Kz)) (aA Fz) hz0 hl
  ·have e:stmtT 28 s ([x,y,z].map textN)=dN [105,102] (textN x) (textN y)++([32,101,108,115,101,32]++blockT (z.kids.map textN)):=by
    have hh:(textN z).has=true:=by
     rw [Cn];cases hq:z.kids with
     | nil=>rw [hq] at hz0;exact absurd rfl hz0
     | cons a c=>rfl
    show dN [105,102] (textN x) (textN y)++(if (textN z).has then [32,101,108,115,101,32]++(textN z).b else [])=_;rw [hh,if_pos rfl,Pm]
   rw [e] at hl ⊢;exact Pk o n s a1 _ q1 t off q2 p x (ihe x (by simp)) xa1 xq1 xa2 xq2 y (ihk y (by simp)) (nA hr2) ya1 yq1 ya2 yq2 z (ihk z (by simp)) (nA hr3) za1 zq1 za2 zq2 B b l w W O htB (aA (by simpa using Kx)) (aA Fx) (aA (by simpa using Ky)) (aA Fy) (aA (by simpa using Kz)) (aA Fz) (by omega) hl
 ·clear hk1 hk2 hk3;have hlen:ks.length=2:=by
   rcases Decidable.em (ks.length=2) with h | h
   ·exact h
   ·rw [AN h] at hr;cases hr
  obtain⟨x,y,rfl⟩:=nK hlen;rw [Js] at hr;simp only [Bool.and_eq_true] at hr;obtain⟨hbare,hr1,hr2⟩:=hr;obtain⟨t,off,rfl,htB,hat⟩:=gJ hK (by simp);obtain⟨xa1,xq1,xa2,xq2,Kx,Fx⟩:=eA hat 0 (by simp) 1 hr1 hsk hcl;obtain⟨ya1,yq1,ya2,yq2,Ky,Fy⟩:=eA hat 1 (by simp) 3 hr2 hsk hcl;exact Qr o n s a1 _ q1 t off q2 p x (ihe x (by simp)) xa1 xq1 xa2 xq2 y (ihk y (by simp)) (nA hr2) ya1 yq1 ya2 yq2 B b l w W O htB (aA (by simpa using Kx)) (aA Fx) (aA (by simpa using Ky)) (aA Fy) hl
 ·clear hk1 hk2 hk3;rw [Jo] at hr;simp only [Bool.and_eq_true,decide_eq_true_eq] at hr;obtain⟨hbare,hlen,hall⟩:=hr;have har:=eF hall;obtain⟨x,rfl⟩:=List.length_eq_one_iff.1 hlen;obtain⟨t,off,rfl,htB,hat⟩:=gJ hK (by simp);obtain⟨xa1,xq1,xa2,xq2,Kx,Fx⟩:=eA hat 0 (by simp) 1 (har _ (by simp)) hsk hcl;exact wB 31 (by decide) (by decide) _ o n s _ _ p B b l w W O (aA fun w' N' W' O' h=>OY o n s a1 _ q1 t off q2 p x (ihe x (by simp)) xa1 xq1 xa2 xq2 B b l w' W' O' htB (aA (aG (by simpa using Kx) htB N'.below)) (aA (aE Fx N')) h) hl
 ·clear hk1 hk2 hk3;rw [Jp] at hr;simp only [Bool.and_eq_true,decide_eq_true_eq] at hr;obtain⟨hbare,hlen,hall⟩:=hr;have har:=eF hall;obtain⟨x,rfl⟩:=List.length_eq_one_iff.1 hlen;obtain⟨t,off,rfl,htB,hat⟩:=gJ hK (by simp);obtain⟨xa1,xq1,xa2,xq2,Kx,Fx⟩:=eA hat 0 (by simp) 1 (har _ (by simp)) hsk hcl;exact wB 32 (by decide) (by decide) _ o n s _ _ p B b l w W O (aA fun w' N' W' O' h=>OZ o n s a1 _ q1 t off q2 p x (ihe x (by simp)) xa1 xq1 xa2 xq2 B b l w' W' O' htB (aA (aG (by simpa using Kx) htB N'.below)) (aA (aE Fx N')) h) hl
theorem Ds (x:Nd):(dT x∧mK x)∧∀ q∈x.kids,mK q:=by
 refine Nd.ind (P:=fun x=>(dT x∧mK x)∧∀ q∈x.kids,mK q) ?_ x;intro k o n s ns ks p ih;refine⟨⟨Id k o n s ns ks p (fun x hx=>(ih x hx).1),Ie k o n s ns ks p (fun x hx=>(ih x hx).1) (fun x hx=>(ih x hx).2)⟩,?_⟩;intro q hq;exact (ih q hq).1.2
def mx (t:Tx):Nat:=max t.e.length (max t.s.length t.b.length)
def nW (l:List Tx):Nat:=(l.map fun t=>mx t+4).sum
theorem Dt (t:Tx):t.e.length≤mx t:=by unfold mx;omega
theorem QF (t:Tx):t.s.length≤mx t:=by unfold mx;omega
theorem QG (t:Tx):t.b.length≤mx t:=by unfold mx;omega
theorem kR (t:Tx) (l:List Tx):nW (t::l)=mx t+4+nW l:=by simp [nW]
theorem AU:∀ l:List Tx,(nD l).length≤nW l
 | []=>by simp [nD]
 | t::l=>by
  have:=AU l;have:=Dt t;rw [kR];simp only [nD,List.flatMap_cons,List.length_append,List.length_cons] at *
  omega
theorem uR:∀ l:List Tx,(fI l).length≤nW l
 | []=>by simp [fI]
 | t::l=>by
  have:=uR l;have:=QF t;rw [kR];simp only [fI,List.flatMap_cons,List.length_append,List.length_cons] at *
  omega
theorem NL (l:List Tx):(jJ l).length≤nW l:=by
 cases l with
 | nil=>simp [jJ]
 | cons t l=>
  have:=AU l;have:=Dt t;rw [kR,jJ,List.length_append];omega
theorem EY (l:List Tx):(iT l).length≤nW l+2:=by
 have:=NL l;unfold iT;simp;omega
theorem Co (l:List Tx):(blockT l).length≤nW l+3:=by
 have:=uR l;unfold blockT;split<;>simp<;>omega
theorem EZ (l:List Tx):(dS l).length≤nW l:=by
 cases l with
 | nil=>simp [dS]
 | cons t l=>
  have:=uR l;have:=QF t;rw [kR,dS,List.length_append];omega
theorem NM (l:List Tx):mx (rG l)+mx (Bl l)+mx (MP l)≤nW l:=by
 have hn:mx Tx.none=0:=rfl;match l with
 | []=>simp [rG,Bl,MP,hn]
 | [x]=>simp [rG,Bl,MP,hn,nW]<;>omega
 | [x,y]=>simp [rG,Bl,MP,hn,nW]<;>omega
 | x::y::z::r=>simp [rG,Bl,MP,nW]<;>omega
theorem NO (l:List Tx):mx (rG l)+nW l.tail≤nW l:=by
 have hn:mx Tx.none=0:=rfl;cases l with
 | nil=>simp [rG,hn,nW]
 | cons x r=>rw [kR];simp [rG]<;>omega
theorem jV (x:Tx) (r:Int):(cB x r).length≤mx x+2:=by
 have:=Dt x;unfold cB;split
 ·omega
 ·simp;omega
theorem AV:∀ (ns:List ByteArray) (l:List Tx),(∀ x∈ns,x.size≤100)→(gZ ns l).length≤nW l+102*ns.length
 | [],l,_=>by simp [gZ]
 | s::ns,[],_=>by simp [gZ]
 | s::ns,t::l,h=>by
  have:=AV ns l (fun x hx=>h x (by simp [hx]));have h1:=h s (by simp);have:=Dt t;have:=cF s;rw [kR];simp only [gZ,mV,List.length_append,List.length_cons];omega
theorem Pn (ns:List ByteArray) (l:List Tx) (h:∀ x∈ns,x.size≤100) (hn:ns.length≤60):(oZ ns l).length≤nW l+7000:=by
 cases ns with
 | nil=>simp [oZ]
 | cons s ns=>
  cases l with
  | nil=>simp [oZ]
  | cons t l=>
   have:=AV ns l (fun x hx=>h x (by simp [hx]));have h1:=h s (by simp);have:=Dt t;have:=cF s;rw [kR];simp only [List.length_cons] at hn;simp only [oZ,mV,List.length_append,List.length_cons,List.length_nil];omega
theorem NP (ns:List ByteArray) (h:∀ x∈ns,x.size≤100) (hn:ns.length≤60):(nN ns).length≤7000:=by
 have key:∀ ns:List ByteArray,(∀ x∈ns,x.size≤100)→(ns.flatMap fun x=>44::32::x.data.toList).length≤102*ns.length:=by
  intro ns;induction ns with
  | nil=>intro _;simp
  | cons s ns ih=>
   intro h;have:=ih (fun x hx=>h x (by simp [hx]));have h1:=h s (by simp);have:=cF s;simp only [List.flatMap_cons,List.length_append,List.length_cons] at *
   omega
 cases ns with
 | nil=>simp [nN]
 | cons s ns=>
  have:=key ns (fun x hx=>h x (by simp [hx]));have h1:=h s (by simp);have:=cF s;simp only [List.length_cons] at hn;simp only [nN,List.length_append];omega
theorem NQ (k n:Int) (s:ByteArray) (h:s.size≤600):(iJ k n s).length≤2500:=by
 have h1:=Dv n;have h2:=Ba s.data.toList;have h3:=cF s;unfold iJ;split
 ·simp
 split
 ·simp
 split
 ·split<;>simp
 split
 ·omega
 split<;>omega
theorem Lv (o:Int):(signT o).length≤2:=by
 unfold signT;split
 ·simp
 ·rw [List.getD_eq_getElem?_getD];cases h:tsgnL[o.toNat]? with
  | none=>simp
  | some x=>
   have hx:=List.mem_of_getElem? h;have:∀ y∈tsgnL,y.length≤2:=by decide
   simpa using this x hx
theorem If (o:Int):(builtT o).1.length≤100:=by
 unfold builtT;split
 ·simp
 ·rw [List.getD_eq_getElem?_getD];cases h:builtL[o.toNat]? with
  | none=>simp
  | some x=>
   have hx:=List.mem_of_getElem? h;have:∀ y∈builtL,y.1.length≤100:=by decide
   simpa using this x hx
theorem NR (k o n:Int) (s:ByteArray) (ns:List ByteArray) (l:List Tx) (hs:s.size≤600) (h:∀ x∈ns,x.size≤100) (hn:ns.length≤60):(exprT k o n s ns l).length≤nW l+9000:=by
 have a:=NM l;have t:=NO l;have ob:=Pn ns l h hn;have jo:=NP ns h hn;have bl:=Co l;have ag:=EY l;have ag2:=EY l.tail;have wd:=NQ k n s hs;have sg:=Lv o;have bt:=If o;have sz:=cF s;have t7:=jV (rG l) 7;have t8:=jV (rG l) 8;have e1:=Dt (Bl l);unfold exprT;split
 ·omega
 split
 ·simp only [List.length_append,List.length_cons,List.length_nil];omega
 split
 ·simp only [List.length_cons];omega
 split
 ·have:=jV (rG l) (rankT 10 o);have:=jV (Bl l) (rankT 10 o+1);simp only [fH,List.length_append,List.length_cons];omega
 split
 ·have:=jV (rG l) 2;have:=jV (Bl l) (2+1);simp only [fH,List.length_append,List.length_cons,List.length_nil];omega
 split
 ·have:=jV (rG l) 1;have:=jV (Bl l) (1+1);simp only [fH,List.length_append,List.length_cons,List.length_nil];omega
 split
 ·simp only [lD,List.length_append,List.length_cons];omega
 split
 ·simp only [gT,List.length_append,List.length_cons,List.length_nil];omega
 split
 ·have:=jV (rG l) (if (rG l).kind=13 then 9 else 8);simp only [List.length_append];omega
 split
 ·simp only [lD,List.length_append,List.length_cons];omega
 split
 ·simp only [List.length_append];omega
 ·omega
theorem NS (k:Int) (s:ByteArray) (l:List Tx) (hs:s.size≤600):(stmtT k s l).length≤nW l+9000:=by
 have a:=NM l;have sz:=cF s;have t8:=jV (rG l) 8;have e0:=Dt (rG l);have e1:=Dt (Bl l);have e2:=Dt (MP l);have b1:=QG (Bl l);have b2:=QG (MP l);have sh:(At k s l).length≤nW l+8000:=by
  unfold At;split
  ·simp only [cZ,List.length_append,List.length_cons,List.length_nil];omega
  split
  ·simp only [cZ,List.length_append,List.length_cons];omega
  split
  ·simp only [lD,cZ,List.length_append,List.length_cons];omega
  split
  ·simp only [gT,cZ,List.length_append,List.length_cons,List.length_nil];omega
  split
  ·simp only [lD,List.length_append,List.length_cons,List.length_nil];omega
  split
  ·simp only [gT,List.length_append,List.length_cons,List.length_nil];omega
  split
  ·simp only [List.length_append,List.length_cons,List.length_nil];omega
  split
  ·simp only [List.length_append,List.length_cons,List.length_nil];omega
  split
  ·omega
  ·simp
 unfold stmtT;split
 ·split<;>simp only [dN,List.length_append,List.length_cons,List.length_nil]<;>omega
 split
 ·simp only [dN,List.length_append,List.length_cons,List.length_nil];omega
 ·simp only [List.length_append,List.length_cons,List.length_nil];omega
theorem NT (x:Nd):dO x=true→mx (textN x)+4≤10010*bH x:=by
 refine Nd.ind (P:=fun x=>dO x=true→mx (textN x)+4≤10010*bH x) ?_ x;intro k o n s ns ks p ih hs;obtain⟨h600,h60,h100,hsk⟩:=lC hs;have key:nW (ks.map textN)≤10010*bU ks:=by
  clear hs;induction ks with
  | nil=>simp [nW]
  | cons y r ih2=>
   have h1:=ih y (by simp) (hsk y (by simp));have h2:=ih2 (fun z hz=>ih z (by simp [hz])) (fun z hz=>hsk z (by simp [hz]));rw [List.map_cons,kR,bU];omega
 have he:=NR k o n s ns (ks.map textN) h600 h100 h60;have hst:=NS k s (ks.map textN) h600;have hb:=Co (ks.map textN);rw [mC,bH];unfold mx;simp only;omega
theorem Lw (x:Nd) (hs:dO x=true) (hc:bH x≤1000):(lL x).length≤100000000:=by
 obtain⟨k,o,n,s,ns,ks,p⟩:=x;obtain⟨_,_,_,hsk⟩:=lC hs;have key:nW (ks.map textN)≤10010*bU ks:=by
  clear hs hc;induction ks with
  | nil=>simp [nW]
  | cons y r ih2=>
   have h1:=NT y (hsk y (by simp));have h2:=ih2 (fun z hz=>hsk z (by simp [hz]));rw [List.map_cons,kR,bU];omega
 have:=EZ (ks.map textN);simp only [bH] at hc;unfold lL;simp only [Nd.kids];omega
end Go.Proofs.YtdnnmjhfidimcaaGreatDoor
