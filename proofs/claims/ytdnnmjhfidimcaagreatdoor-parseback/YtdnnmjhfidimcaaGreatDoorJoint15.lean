/- What text.Take answers, for any text. The pieces of a right tree stand well beside each other. -/
import Derived.Test.YtdnnmjhfidimcaaGreatDoorJoint10
import Derived.Deep.RegionWith
import Derived.Test.YtdnnmjhfidimcaaGreatDoorJoint14
import Derived.Test.YtdnnmjhfidimcaaGreatDoorJoint8
namespace Go.Proofs.YtdnnmjhfidimcaaGreatDoor
set_option maxHeartbeats 1600000
set_option maxRecDepth 100000
open Go.RowKit
theorem FB {f:Nat} {l acc:List UInt8} {k:Nat} {out:List UInt8×Nat×Int} (h:fL f l k acc=out) (hf:l.length<f) (hl:lookN l=34):out=(acc,k+1,0):=by
 match f,l with
 | f+1,[]=>simp [lookN] at hl
 | f+1,c::r=>rw [← h,fL,if_pos (by exact hl)]
theorem DT {f:Nat} {l acc:List UInt8} {k n:Nat} {out:List UInt8×Nat×Int} (h:fL f l k acc=out) (hf:l.length<f) (hl:lookN l≠34) (ho:fI l=(none,n)):out=([],k+n,11):=by
 match f,l with
 | f+1,[]=>simp [fI] at ho;rw [← h,fL,← ho];rfl
 | f+1,c::r=>rw [← h,fL,if_neg (by exact hl),ho]
theorem JU {f:Nat} {l acc:List UInt8} {k n:Nat} {b:UInt8} {out:List UInt8×Nat×Int} (h:fL f l k acc=out) (hf:l.length<f) (ho:fI l=(some b,n)) :
  ∃ f',fL f' (l.drop n) (k+n) (acc++[b])=out∧(l.drop n).length<f'∧1≤n∧n≤l.length:=by
 have hn:=CA ho;have hle:=wI l;rw [ho] at hle;match f,l with
 | f+1,[]=>simp [fI] at ho
 | f+1,c::r=>
  rw [sR ho] at h;refine⟨f,h,?_,hn,hle⟩;simp only [List.length_drop];simp at hf hle ⊢;omega
def atOf (b:Nat) (w:World):Nat:=match w.cell? ⟨b,3,none⟩ with | some (.int _ n)=>n.toNat | _=>0
theorem Rdr.atOf {s:ByteArray} {B b k:Nat} {acc:List UInt8} {w:World} (h:Rdr s B b k acc w):atOf b w=k:=by
 unfold YtdnnmjhfidimcaaGreatDoor.atOf;rw [h.at];simp
theorem FC (s:ByteArray) (hs:s.size≤1000000) (B b:Nat) (w:World) (h:Rdr s B b 0 [] w) :
  Calls Tryz.prog 156 #[.pointer (some ⟨b,0,none⟩)] w fun e w'=>∃ (k:Nat) (acc:List UInt8),Rdr s B b k acc w'∧Below B w w'∧
   ((e=.returned (.bool true)∧takeOut s.data.toList=(acc,k,0))∨(e=.returned (.bool false)∧takeOut s.data.toList=([],k,11))):=by
 have HR:=aA h;clear h;by_cases h34:lookN (s.data.toList.drop 0)=34
 ·have H34:=aA h34;have hpos:0<s.size:=by
   rcases Nat.lt_or_ge 0 s.size with h' | h'
   ·exact h'
   ·rw [fH s 0 h'] at h34;simp [lookN] at h34
  have hd:=aZ s 0 hpos;have hout:takeOut s.data.toList=fL ((s.data.toList.drop 1).length+1) (s.data.toList.drop 1) 1 []:=by
   rw [List.drop_zero] at hd h34;conv=>lhs;rw [hd]
   rw [hd] at h34;simp only [takeOut];rw [if_pos (by exact h34)]
  have HO:=aA hout;clear h34 hd hout;go_enter Tryz.func156,Tryz.ntmps156;go_wp2_with fail;refine (qZ s hs B b 0 [] 34 (by omega) _ HR.out H34.out).mono ?_;rintro e w1 ⟨rfl,h1,b1⟩;have H1:=aA h1;have B1:=aA b1;clear h1 b1;go_wp2_with fail;go_loopw [] (fun wr=>∃ (k f:Nat) (acc:List UInt8),k≤s.size∧acc.length≤k∧fL f (s.data.toList.drop k) k acc=takeOut s.data.toList∧(s.data.toList.drop k).length<f∧Rdr s B b k acc wr∧Below B w wr) (fun wr=>s.size - atOf b wr)
  case atStart=>exact⟨1,_,[],hpos,by simp,HO.out.symm,by omega,H1.out,B1.out⟩
  case round=>
   clear H1 B1 HO HR H34;obtain⟨k,f,acc,hk,hak,hgo,hf,hR,hB⟩:=hrel;have HR:=aA hR;have HB:=aA hB;have HG:=aA hgo;have HF:=aA hf;clear hR hB hgo hf;by_cases h34:lookN (s.data.toList.drop k)=34
   ·have HO:=aA (FB HG.out HF.out h34);have H34:=aA h34;clear h34;go_wp2_with fail;refine (qZ s hs B b k acc 34 hk _ HR.out H34.out).mono ?_;rintro e w2 ⟨rfl,h2,b2⟩;have H2:=aA h2;have B2:=aA (HB.out.trans b2);clear h2 b2;go_wp2;go_ret;exact⟨k+1,acc,H2.out,B2.out,Or.inl ⟨rfl,HO.out⟩⟩
   ·have H34:=aA h34;cases hone:fI (s.data.toList.drop k) with
    | mk o n=>
     have HOne:=aA hone;clear hone;cases o with
     | none=>
      have HO:=aA (DT HG.out HF.out h34 HOne.out);clear h34;go_wp2_with fail;refine (mV s B b k acc 34 hk _ HR.out H34.out).mono ?_;rintro e w2 ⟨rfl,h2,b2⟩;have H2:=aA h2;have B2:=aA (HB.out.trans b2);clear h2 b2;go_wp2_with fail;refine (CW s hs B b k acc hk (by omega) _ H2.out none n HOne.out).mono ?_;rintro e w3 ⟨rfl,h3,b3⟩;have H3:=aA h3;have B3:=aA (B2.out.trans b3);clear h3 b3;go_wp2;go_ret;exact⟨k+n,acc++none.toList,H3.out,B3.out,Or.inr ⟨rfl,HO.out⟩⟩
     | some c=>
      obtain⟨f',hg',hf',hn1,hn2⟩:=JU HG.out HF.out HOne.out;have HG':=aA hg';have HF':=aA hf';rw [List.length_drop,cB] at hn2;clear h34 hg' hf';go_wp2_with fail;refine (mV s B b k acc 34 hk _ HR.out H34.out).mono ?_;rintro e w2 ⟨rfl,h2,b2⟩;have H2:=aA h2;have B2:=aA (HB.out.trans b2);clear h2 b2;go_wp2_with fail;refine (CW s hs B b k acc hk (by omega) _ H2.out (some c) n HOne.out).mono ?_;rintro e w3 ⟨rfl,h3,b3⟩;have H3:=aA h3;have B3:=aA (B2.out.trans b3);clear h3 b3;go_wp2;refine⟨⟨k+n,f',acc++[c],by omega,by simp;omega,by rw [← List.drop_drop];exact HG'.out,by rw [← List.drop_drop];exact HF'.out,H3.out,B3.out⟩,?_⟩;rw [H3.out.atOf,HR.out.atOf];omega
 ·have hout:takeOut s.data.toList=([],0,11):=by
   rw [List.drop_zero] at h34;cases hd:s.data.toList with
   | nil=>rfl
   | cons c r=>rw [hd] at h34;simp only [takeOut];rw [if_neg (by exact h34)]
  have HO:=aA hout;have H34:=aA h34;clear hout h34;go_enter Tryz.func156,Tryz.ntmps156;go_wp2_with fail;refine (mV s B b 0 [] 34 (by omega) _ HR.out H34.out).mono ?_;rintro e w1 ⟨rfl,h1,b1⟩;have H1:=aA h1;have B1:=aA b1;clear h1 b1;go_wp2;go_ret;exact⟨0,[],H1.out,B1.out,Or.inr ⟨rfl,HO.out⟩⟩
theorem vR (s:ByteArray) (hs:s.size≤1000000) (w:World) :
  Calls Tryz.prog 129 #[.string s] w fun e w'=>
   e=.returned (.tuple #[.string ⟨(takeOut s.data.toList).1.toArray⟩,.int .i64 ((takeOut s.data.toList).2.1:Int),.int .i64 (takeOut s.data.toList).2.2])∧Below w.heap.size w w':=by
 have hnew:Rdr s w.heap.size w.heap.size 0 [] (w.alloc (.cells #[.pointer none,.slice none 0 0,.string s,.int .i64 0] 137)):=DM 137 [.string s,.int .i64 0] w _ rfl;have hb0:Below w.heap.size w (w.alloc (.cells #[.pointer none,.slice none 0 0,.string s,.int .i64 0] 137)):=(Below.refl _ w).alloc (Nat.le_refl _) _;have H0:=aA hnew;have B0:=aA hb0;clear hnew hb0;go_enter Tryz.func129,Tryz.ntmps129;go_wp2_with fail;refine (FC s hs _ _ _ H0.out).mono ?_;rintro e w1 ⟨k,acc,h1,b1,(⟨rfl,ho⟩ | ⟨rfl,ho⟩)⟩
 ·have H1:=aA h1;have B1:=aA (B0.out.trans b1);have ca:w1.drew.cell? ⟨w.heap.size,3,none⟩=some (.int .i64 (k:Int)):=h1.drew.at;have HO:=aA ho;have HD:=aA h1.drew;clear h1 b1 ho;go_wp2_with fail;go_region_with (go_at_call 28;refine (rW _ _ _ _ _ _ HD.out).mono ?_;rintro e w2 ⟨rfl,b2,hc⟩;have c2:w2.cell? ⟨w.heap.size,3,none⟩=some (.int .i64 (k:Int)):=(hc 3).trans ca;clear hc)
  all_goals (go_wp2;go_ret3;exact⟨by rw [HO.out];rfl,B1.out.drew.trans b2⟩)
 ·have H1:=aA h1;have B1:=aA (B0.out.trans b1);have ca:w1.drew.cell? ⟨w.heap.size,3,none⟩=some (.int .i64 (k:Int)):=h1.drew.at;have HO:=aA ho;clear h1 b1 ho;go_wp2_with fail;go_region;all_goals (go_wp2;go_ret3;exact⟨by rw [HO.out];rfl,B1.out.drew⟩)
def hdB (c:UInt8):Bool:=c != 61&&c != 47
def lM (l:List Pc):Prop:=gV l∧laid l≠[]∧cQ hdB (laid l)
theorem BD {p:UInt8→Bool} {a b:List UInt8} (h:cQ p a) (hne:a≠[]):cQ p (a++b):=by
 cases a with
 | nil=>exact absurd rfl hne
 | cons c r=>exact mI (h c r rfl)
theorem jV {p q:UInt8→Bool} {a:List UInt8} (h:cQ p a) (hpq:∀ c,p c=true→q c=true):cQ q a:=fun c r e=>hpq c (h c r e)
theorem Ee {c:UInt8} (h:kD c=true):hdB c=true:=by simp only [kD,Bool.and_eq_true] at h;unfold hdB;rw [Bool.and_eq_true];exact h.2
theorem BE:∀ {a b:List Pc},gV a→gV b→cQ kD (laid b)→gV (a++b)
 | [],b,_,hb,_=>hb
 | .bl::r,b,ha,hb,hs=>BE (a:=r) ha hb hs
 | .tk t::r,b,ha,hb,hs=>by
  obtain⟨h1,h2,h3,h4⟩:=ha;refine⟨h1,h2,?_,BE h4 hb hs⟩;show cQ (tR t) (laid (r++b));rw [cI];by_cases he:laid r=[]
  ·rw [he];exact jV hs fun c hc=>uO hc
  ·exact BD h3 he
theorem gL {a b:List Pc} (ha:lM a) (hb:gV b) (hs:cQ kD (laid b)):lM (a++b):=by
 obtain⟨h1,h2,h3⟩:=ha;refine⟨BE h1 hb hs,?_,?_⟩
 ·rw [cI];intro e;exact h2 (List.append_eq_nil_iff.1 e).1
 ·rw [cI];exact BD h3 h2
theorem eE {x:List UInt8} (hx:x∈sgnL) {b:List Pc} (hb:gV b) (hh:cQ hdB (laid b)):gV (sg x::b):=by
 refine⟨by simp [dB,cS,hx],by simp [dB],?_,hb⟩;exact jV hh fun c hc=>by unfold tR;rw [if_neg (by simp [dB]),if_pos (by simp [dB])];exact hc
theorem kO {x:List UInt8} (hx:iW x=true) {b:List Pc} (hb:gV b) (hh:cQ kD (laid b)):gV (kw x::b):=
 ⟨by simp [sN,cS,hx],by simp [sN],jV hh fun _ hc=>uO hc,hb⟩
theorem xJ {s:ByteArray} (hs:properB s=true) {b:List Pc} (hb:gV b) (hh:cQ kD (laid b)):gV (nm s::b):=
 ⟨by unfold properB at hs;simpa [Ea,cS] using hs,by simp [Ea],jV hh fun _ hc=>uO hc,hb⟩
theorem Ef {s:ByteArray} (hs:dM s=true) {b:List Pc} (hb:gV b) (hh:cQ kD (laid b)):gV (pp s::b):=by
 refine⟨?_,?_,jV hh fun _ hc=>uO hc,hb⟩
 ·unfold dM at hs;unfold Cs cS;cases iW s.data.toList<;>simp_all
 ·unfold Cs;cases iW s.data.toList<;>simp
theorem gH {b:List Pc} (hb:gV b):gV (.bl::b):=hb
theorem gI:gV []:=trivial
theorem eW {p:UInt8→Bool} {c:UInt8} {x:List UInt8} {b:List Pc} (h:p c=true):cQ p (laid (sg (c::x)::b)):=by
 rw [bO,gU];exact mI h
theorem gJ {p:UInt8→Bool} {b:List Pc} (h:p 32=true):cQ p (laid (.bl::b)):=by
 rw [bO];exact mI h
theorem lD {p:UInt8→Bool} {c:UInt8} {x:List UInt8} {b:List Pc} (h:p c=true):cQ p (laid (kw (c::x)::b)):=by
 rw [bO,kN];exact mI h
theorem Mx {c:UInt8} (h:aW c.toNat=true):hdB c=true:=by
 have h1:c≠61:=by intro e;subst e;cases h
 have h2:c≠47:=by intro e;subst e;cases h
 simp [hdB,h1,h2]
theorem De {s:List UInt8} {R:List UInt8} (h:nameB s=true):cQ hdB (s++R):=by
 obtain⟨b,r,e,hl,_⟩:=vQ h;rw [e];exact mI (Mx hl)
theorem oK {s:ByteArray} (h:properB s=true):dM s=true:=by unfold properB at h;rw [Bool.and_eq_true] at h;exact h.1
theorem Eg {s:ByteArray} {b:List Pc} (h:dM s=true):cQ hdB (laid (nm s::b)):=by rw [bO,rX];exact De h
theorem Ka {s:ByteArray} {b:List Pc} (h:dM s=true):cQ hdB (laid (pp s::b)):=by rw [bO,At];exact De h
theorem FI {c:UInt8} {x:List UInt8} {b:List Pc} : laid (sg (c::x)::b)≠[]:=by rw [bO,gU];simp
theorem rC {c:UInt8} {x:List UInt8} {b:List Pc} : laid (kw (c::x)::b)≠[]:=by rw [bO,kN];simp
theorem QX {s:ByteArray} {b:List Pc} (h:dM s=true):laid (nm s::b)≠[]:=by
 obtain⟨c,r,e,_,_⟩:=vQ h;rw [bO,rX,e];simp
theorem nS {x:Px} (h:lM x.e) (r:Int):lM (iQ x r):=by
 unfold iQ;split
 ·exact h
 ·have h2:=gL h (eE (x:=[41]) (by decide) gI (fM _)) (eW (by decide));exact⟨eE (by decide) h2.1 h2.2.2,FI,eW (by decide)⟩
theorem Aa {R:List Pc} (hR:gV R) (hs:cQ kD (laid R)):∀ {l:List Px},(∀ x∈l,lM x.e)→gV (fV l++R)∧cQ kD (laid (fV l++R))
 | [],_=>⟨hR,hs⟩
 | x::l,h=>by
  have ih:=Aa hR hs (l:=l) (fun y hy=>h y (by simp [hy]));have hx:=gL (h x (by simp)) ih.1 ih.2;have e:fV (x::l)++R=sg [44] :: .bl::(x.e++(fV l++R)):=by simp [fV]
  rw [e];exact⟨eE (by decide) (gH hx.1) (gJ (by decide)),eW (by decide)⟩
theorem yV {l:List Px} (h:∀ x∈l,lM x.e) {R:List Pc} (hR:gV R) (hs:cQ hdB (laid R)):gV (lH l++R)∧cQ kD (laid (lH l++R)):=by
 have hc:gV (sg [41]::R):=eE (by decide) hR hs;have e:lH l++R=sg [40]::(nG l++(sg [41]::R)):=by simp [lH]
 rw [e];refine⟨?_,eW (by decide)⟩;cases l with
 | nil=>exact eE (by decide) hc (eW (by decide))
 | cons x l=>
  have ih:=Aa hc (eW (by decide)) (l:=l) (fun y hy=>h y (by simp [hy]));have hx:=gL (h x (by simp)) ih.1 ih.2;have e:nG (x::l)++(sg [41]::R)=x.e++(fV l++(sg [41]::R)):=by simp [nG]
  rw [e];exact eE (by decide) hx.1 hx.2.2
theorem Ab {R:List Pc} (hR:gV R) (hs:cQ kD (laid R)):∀ {ns:List ByteArray} {l:List Px},(∀ s∈ns,dM s=true)→(∀ x∈l,lM x.e)→gV (fW ns l++R)∧cQ kD (laid (fW ns l++R))
 | [],l,_,_=>by cases l<;>exact⟨hR,hs⟩
 | s::ns,[],_,_=>⟨hR,hs⟩
 | s::ns,x::l,hn,h=>by
  have ih:=Ab hR hs (ns:=ns) (l:=l) (fun y hy=>hn y (by simp [hy])) (fun y hy=>h y (by simp [hy]));have hx:=gL (h x (by simp)) ih.1 ih.2;have e:fW (s::ns) (x::l)++R=sg [44] :: .bl::pp s::sg [58] :: .bl::(x.e++(fW ns l++R)):=by simp [fW,tN]
  rw [e];exact⟨eE (by decide) (gH (Ef (hn s (by simp)) (eE (by decide) (gH hx.1) (gJ (by decide))) (eW (by decide)))) (gJ (by decide)),eW (by decide)⟩
theorem Oz {ns:List ByteArray} {l:List Px} (hn:∀ s∈ns,dM s=true) (h:∀ x∈l,lM x.e):lM (yS ns l):=by
 have hc:gV [sg [125]]:=eE (by decide) gI (fM _);have h0:lM [sg [123],sg [125]]:=⟨eE (by decide) hc (eW (by decide)),FI,eW (by decide)⟩
 cases ns with
 | nil=>exact h0
 | cons s ns=>
  cases l with
  | nil=>exact h0
  | cons x l=>
   have ih:=Ab hc (eW (by decide)) (ns:=ns) (l:=l) (fun y hy=>hn y (by simp [hy])) (fun y hy=>h y (by simp [hy]));have hx:=gL (h x (by simp)) ih.1 ih.2;have e:yS (s::ns) (x::l)=sg [123]::pp s::sg [58] :: .bl::(x.e++(fW ns l++[sg [125]])):=by simp [yS,tN]
   rw [e];exact⟨eE (by decide) (Ef (hn s (by simp)) (eE (by decide) (gH hx.1) (gJ (by decide))) (eW (by decide))) (Ka (hn s (by simp))),FI,eW (by decide)⟩
theorem BF {R:List Pc} (hR:gV R) (hs:cQ kD (laid R)):∀ {ns:List ByteArray},(∀ s∈ns,properB s=true)→gV (mZ ns++R)∧cQ kD (laid (mZ ns++R))
 | [],_=>⟨hR,hs⟩
 | s::ns,h=>by
  have ih:=BF hR hs (ns:=ns) (fun y hy=>h y (by simp [hy]));have e:mZ (s::ns)++R=sg [44] :: .bl::nm s::(mZ ns++R):=by simp [mZ]
  rw [e];exact⟨eE (by decide) (gH (xJ (h s (by simp)) ih.1 ih.2)) (gJ (by decide)),eW (by decide)⟩
theorem tS {R:List Pc} (hR:gV R) (hs:cQ kD (laid R)):∀ {l:List Px},(∀ x∈l,lM x.s)→gV (fO l++R)∧cQ kD (laid (fO l++R))
 | [],_=>⟨hR,hs⟩
 | x::l,h=>by
  have ih:=tS hR hs (l:=l) (fun y hy=>h y (by simp [hy]));have hx:=gL (h x (by simp)) ih.1 ih.2;have e:fO (x::l)++R=.bl::(x.s++(fO l++R)):=by simp [fO]
  rw [e];exact⟨gH hx.1,gJ (by decide)⟩
theorem BG {l:List Px} (h:∀ x∈l,lM x.s) {R:List Pc} (hR:gV R) (hs:cQ hdB (laid R)):gV (blockC l++R)∧cQ kD (laid (blockC l++R)):=by
 have hc:gV (sg [125]::R):=eE (by decide) hR hs;cases l with
 | nil=>exact⟨eE (by decide) hc (eW (by decide)),eW (by decide)⟩
 | cons x l=>
  have ih:=tS (R:=.bl::sg [125]::R) (gH hc) (gJ (by decide)) h;have e:blockC (x::l)++R=sg [123]::(fO (x::l)++(.bl::sg [125]::R)):=by simp [blockC]
  rw [e];exact⟨eE (by decide) ih.1 (jV ih.2 fun c hc=>Ee hc),eW (by decide)⟩
theorem xK {x:Px} (h:lM x.e) {s:ByteArray} (hs:dM s=true) {R:List Pc} (hR:gV R) (hr:cQ kD (laid R)):lM (tO x s++R):=by
 have e:tO x s++R=iQ x 8++(sg [46]::pp s::R):=by simp [tO]
 rw [e];exact gL (nS h 8) (eE (by decide) (Ef hs hR hr) (Ka hs)) (eW (by decide))
theorem vV {x y:Px} (h:lM x.e) (hy:lM y.e) {R:List Pc} (hR:gV R) (hr:cQ hdB (laid R)):lM (nA x y++R):=by
 have e:nA x y++R=iQ x 8++(sg [91]::(y.e++(sg [93]::R))):=by simp [nA]
 have hc:gV (sg [93]::R):=eE (by decide) hR hr;have h2:=gL hy hc (eW (by decide));rw [e];exact gL (nS h 8) (eE (by decide) h2.1 h2.2.2) (eW (by decide))
theorem oV {x:Px} (h:lM x.e) {R:List Pc} (hR:gV R) (hr:cQ kD (laid R)):gV (hX x++R)∧cQ kD (laid (hX x++R)):=by
 have h2:=gL h hR hr;exact⟨gH (eE (by decide) (gH h2.1) (gJ (by decide))),gJ (by decide)⟩
theorem rZ {x y:Px} (h:lM x.e) (hy:lM y.e) {r:Int} {g:List UInt8} (hg:g∈sgnL):lM (lR r g x y):=by
 have h2:=nS hy (r+1);exact gL (nS h r) (gH (eE hg (gH h2.1) (gJ (by decide)))) (gJ (by decide))
theorem Qf {o:Int} (h:1≤o∧o≤11):signT o∈sgnL:=by
 obtain rfl | rfl | rfl | rfl | rfl | rfl | rfl | rfl | rfl | rfl | rfl:o=1∨o=2∨o=3∨o=4∨o=5∨o=6∨o=7∨o=8∨o=9∨o=10∨o=11:=by omega
 all_goals decide
theorem OA {o:Int} (h:1≤o∧o≤7):iW (builtT o).1=true∧∃ c r,(builtT o).1=c::r∧hdB c=true:=by
 obtain rfl | rfl | rfl | rfl | rfl | rfl | rfl:o=1∨o=2∨o=3∨o=4∨o=5∨o=6∨o=7:=by omega
 all_goals exact⟨by decide,_,_,rfl,by decide⟩
def FJ (a:Nat) (t:Nd):Prop:=
 (a=1→lM (pcN t).e)∧(a=2→lM (pcN t).s)∧(a=3→∀ R,gV R→cQ hdB (laid R)→gV ((pcN t).b++R)∧cQ kD (laid ((pcN t).b++R)))
theorem nH {t:Nd} (h:lM (pcN t).e):FJ 1 t:=⟨fun _=>h,fun h=>(by cases h),fun h=>(by cases h)⟩
theorem tT {t:Nd} (h:lM (pcN t).s):FJ 2 t:=⟨fun h=>(by cases h),fun _=>h,fun h=>(by cases h)⟩
theorem uP {ks:List Nd} (h:∀ x∈ks,FJ 1 x):∀ x∈ks.map pcN,lM x.e:=by
 intro x hx;obtain⟨y,hy,rfl⟩:=List.mem_map.1 hx;exact (h y hy).1 rfl
theorem vW {ks:List Nd} (h:∀ x∈ks,FJ 2 x):∀ x∈ks.map pcN,lM x.s:=by
 intro x hx;obtain⟨y,hy,rfl⟩:=List.mem_map.1 hx;exact (h y hy).2.1 rfl
theorem pT:cQ kD (laid []):=fM _
theorem close_semi:gV [sg [59]]∧cQ kD (laid [sg [59]]):=⟨eE (by decide) gI (fM _),eW (by decide)⟩
theorem Kb {a:Nat} {t:Nd} (h:Rt a t):FJ a t:=by
 induction h with
 | null p=>exact nH ⟨kO (by decide) gI pT,rC,lD (by decide)⟩
 | bool n p hn=>
  rcases hn with rfl | rfl
  ·exact nH ⟨kO (x:=[102,97,108,115,101]) (by decide) gI pT,rC (c:=102),lD (c:=102) (by decide)⟩
  ·exact nH ⟨kO (x:=[116,114,117,101]) (by decide) gI pT,rC (c:=116),lD (c:=116) (by decide)⟩
 | int n p hn=>
  have hr:cS ⟨3,⟨(digs n).toArray⟩,n,0⟩=true:=by simp [cS,hn]
  have hf:gV [.tk ⟨3,⟨(digs n).toArray⟩,n,0⟩]:=⟨hr,by simp,fM _,trivial⟩
  have hne:=Ed hr (by simp);have e:(pcN (.mk 3 0 n bz [] [] p)).e=[.tk ⟨3,⟨(digs n).toArray⟩,n,0⟩]:=by rw [cM];rfl
  refine nH ?_;rw [e];have hl:laid [.tk ⟨3,⟨(digs n).toArray⟩,n,0⟩]=digs n:=by simp [laid,Pc.text,eP]
  refine⟨hf,?_,?_⟩
  ·rw [hl];simpa [eP] using hne
  ·rw [hl];intro c r e;have hall:(digs n).all jC=true:=by unfold digs;rw [if_neg (by omega)];exact Aq _ _
   have:=List.all_eq_true.1 hall c (by rw [e];simp);have h1:c≠61:=by intro e;subst e;cases this
   have h2:c≠47:=by intro e;subst e;cases this
   simp [hdB,h1,h2]
 | str s p hs=>
  have hr:cS ⟨4,s,0,0⟩=true:=by simp [cS,hs]
  have e:(pcN (.mk 4 0 0 s [] [] p)).e=[.tk ⟨4,s,0,0⟩]:=by rw [cM];rfl
  have hl:laid [.tk ⟨4,s,0,0⟩]=34::(jT s.data.toList++[34]):=by simp [laid,Pc.text,eP,lI]
  refine nH ?_;rw [e];exact⟨⟨hr,by simp,fM _,trivial⟩,by rw [hl];simp,by rw [hl];exact mI (by decide)⟩
 | name s p hs=>exact nH ⟨xJ hs gI pT,QX (oK hs),Eg (oK hs)⟩
 | this p=>exact nH ⟨kO (by decide) gI pT,rC,lD (by decide)⟩
 | obj ns ks p hl hm hns hk ih=>
  refine nH ?_;rw [cM];exact Oz hns (uP ih)
 | fn ns ks p hm hns hc hk ih=>
  refine nH ?_;rw [cM];have hb:=BG (vW ih) gI (fM _);rw [List.append_nil] at hb;have h2:gV (sg [41] :: .bl::blockC (ks.map pcN)):=eE (by decide) (gH hb.1) (gJ (by decide));show lM (kw [102,110]::sg [40]::(oJ ns++(sg [41] :: .bl::blockC (ks.map pcN))));have h3:gV (oJ ns++(sg [41] :: .bl::blockC (ks.map pcN)))∧cQ hdB (laid (oJ ns++(sg [41] :: .bl::blockC (ks.map pcN)))):=by
   cases ns with
   | nil=>exact⟨h2,eW (by decide)⟩
   | cons s r=>
    have h4:=BF h2 (eW (by decide)) (ns:=r) (fun y hy=>hns y (by simp [hy]));exact⟨xJ (hns s (by simp)) h4.1 h4.2,Eg (oK (hns s (by simp)))⟩
  exact⟨kO (by decide) (eE (by decide) h3.1 h3.2) (eW (by decide)),rC,lD (by decide)⟩
 | un o x p ho hx ih=>
  refine nH ?_;rw [cM];have h2:=nS (ih.1 rfl) 7;rcases ho with rfl | rfl
  ·exact⟨eE (x:=[45]) (by decide) h2.1 h2.2.2,FI (c:=45),eW (c:=45) (by decide)⟩
  ·exact⟨eE (x:=[33]) (by decide) h2.1 h2.2.2,FI (c:=33),eW (c:=33) (by decide)⟩
 | bin o x y p ho hx hy ix iy=>
  refine nH ?_;rw [cM];exact rZ (ix.1 rfl) (iy.1 rfl) (Qf ho)
 | and x y p hx hy ix iy=>
  refine nH ?_;rw [cM];exact rZ (ix.1 rfl) (iy.1 rfl) (by decide)
 | or x y p hx hy ix iy=>
  refine nH ?_;rw [cM];exact rZ (ix.1 rfl) (iy.1 rfl) (by decide)
 | get s x p hs hx ix=>
  refine nH ?_;rw [cM];have:=xK (ix.1 rfl) hs gI pT;rw [List.append_nil] at this;exact this
 | index x y p hx hy ix iy=>
  refine nH ?_;rw [cM];have:=vV (ix.1 rfl) (iy.1 rfl) gI (fM _);rw [List.append_nil] at this;exact this
 | call x ks p hc hx hk ix ik=>
  refine nH ?_;rw [cM];have:=yV (uP ik) gI (fM _);rw [List.append_nil] at this;exact gL (nS (ix.1 rfl) _) this.1 this.2
 | meth s x ks p hs hc hx hk ix ik=>
  refine nH ?_;rw [cM];have:=yV (uP ik) gI (fM _);rw [List.append_nil] at this;exact xK (ix.1 rfl) hs this.1 this.2
 | built o ks p ho hc hk ik=>
  refine nH ?_;rw [cM];obtain⟨hb,c,r,e,hh⟩:=OA ho;have:=yV (uP ik) gI (fM _);rw [List.append_nil] at this;refine⟨kO hb this.1 this.2,?_,?_⟩
  ·show laid (kw (builtT o).1::_)≠[];rw [e];exact rC
  ·show cQ hdB (laid (kw (builtT o).1::_));rw [e];exact lD hh
 | slet s x p hs hx ix=>
  refine tT ?_;rw [cM];have:=oV (ix.1 rfl) close_semi.1 close_semi.2;exact⟨kO (x:=[108,101,116]) (by decide) (gH (xJ hs this.1 this.2)) (gJ (by decide)),rC (c:=108),lD (c:=108) (by decide)⟩
 | assign s x p hs hx ix=>
  refine tT ?_;rw [cM];have:=oV (ix.1 rfl) close_semi.1 close_semi.2;exact⟨xJ hs this.1 this.2,QX (oK hs),Eg (oK hs)⟩
 | set s x y p hs hx hy ix iy=>
  refine tT ?_;rw [cM];have:=oV (iy.1 rfl) close_semi.1 close_semi.2;show lM (tO (pcN x) s++hX (pcN y)++[sg [59]]);rw [List.append_assoc];exact xK (ix.1 rfl) hs this.1 this.2
 | setix x y z p hx hy hz ix iy iz=>
  refine tT ?_;rw [cM];have:=oV (iz.1 rfl) close_semi.1 close_semi.2;show lM (nA (pcN x) (pcN y)++hX (pcN z)++[sg [59]]);rw [List.append_assoc];exact vV (ix.1 rfl) (iy.1 rfl) this.1 (jV this.2 fun c hc=>Ee hc)
 | del s x p hs hx ix=>
  refine tT ?_;rw [cM];have:=xK (ix.1 rfl) hs close_semi.1 close_semi.2;exact⟨kO (x:=[100,101,108,101,116,101]) (by decide) (gH this.1) (gJ (by decide)),rC (c:=100),lD (c:=100) (by decide)⟩
 | delix x y p hx hy ix iy=>
  refine tT ?_;rw [cM];have:=vV (ix.1 rfl) (iy.1 rfl) close_semi.1 (jV close_semi.2 fun c hc=>Ee hc);exact⟨kO (x:=[100,101,108,101,116,101]) (by decide) (gH this.1) (gJ (by decide)),rC (c:=100),lD (c:=100) (by decide)⟩
 | print x p hx ix=>
  refine tT ?_;rw [cM];have:=gL (ix.1 rfl) close_semi.1 close_semi.2;exact⟨kO (x:=[112,114,105,110,116]) (by decide) (gH this.1) (gJ (by decide)),rC (c:=112),lD (c:=112) (by decide)⟩
 | iff x y z p hx hy hz ix iy iz=>
  refine tT ?_;rw [cM];have key:∀ R,gV R→cQ hdB (laid R)→lM (lW [105,102] (pcN x) (pcN y)++R):=by
   intro R hR hh;have hb:=iy.2.2 rfl R hR hh;have h2:=gL (ix.1 rfl) (b:=sg [41] :: .bl::((pcN y).b++R)) (eE (by decide) (gH hb.1) (gJ (by decide))) (eW (by decide));have e:lW [105,102] (pcN x) (pcN y)++R=kw [105,102] :: .bl::sg [40]::((pcN x).e++(sg [41] :: .bl::((pcN y).b++R))):=by simp [lW]
   rw [e];exact⟨kO (by decide) (gH (eE (by decide) h2.1 h2.2.2)) (gJ (by decide)),rC,lD (by decide)⟩
  show lM (lW [105,102] (pcN x) (pcN y)++(if (pcN z).has then .bl::kw [101,108,115,101] :: .bl::(pcN z).b else []));split
  ·have hz:=iz.2.2 rfl [] gI (fM _);rw [List.append_nil] at hz;exact key _ (gH (kO (by decide) (gH hz.1) (gJ (by decide)))) (gJ (by decide))
  ·exact key _ gI (fM _)
 | whil x y p hx hy ix iy=>
  refine tT ?_;rw [cM];have hb:=iy.2.2 rfl [] gI (fM _);rw [List.append_nil] at hb;have h2:=gL (ix.1 rfl) (b:=sg [41] :: .bl::(pcN y).b) (eE (by decide) (gH hb.1) (gJ (by decide))) (eW (by decide));exact⟨kO (x:=[119,104,105,108,101]) (by decide) (gH (eE (by decide) h2.1 h2.2.2)) (gJ (by decide)),rC (c:=119),lD (c:=119) (by decide)⟩
 | ret x p hx ix=>
  refine tT ?_;rw [cM];have:=gL (ix.1 rfl) close_semi.1 close_semi.2;exact⟨kO (x:=[114,101,116,117,114,110]) (by decide) (gH this.1) (gJ (by decide)),rC (c:=114),lD (c:=114) (by decide)⟩
 | sexpr x p hx ix=>
  refine tT ?_;rw [cM];exact gL (ix.1 rfl) close_semi.1 close_semi.2
 | block ks p hc hk ik=>
  refine⟨fun h=>(by cases h),fun h=>(by cases h),fun _ R hR hh=>?_⟩;rw [cM];exact BG (vW ik) hR hh
theorem IQ {t:Nd} (h:rightN t 3=true):gV (tQ t):=by
 have hr:=EL t 3 (by simp) h;cases hr with
 | block ks p hc hk=>
  show gV (rB (ks.map pcN));cases ks with
  | nil=>exact gI
  | cons x r=>
   have hk':∀ x∈r.map pcN,lM x.s:=vW fun y hy=>Kb (hk y (by simp [hy]))
   have h2:=tS gI pT hk';rw [List.append_nil] at h2;exact (gL ((Kb (hk x (by simp))).2.1 rfl) h2.1 h2.2).1
end Go.Proofs.YtdnnmjhfidimcaaGreatDoor
