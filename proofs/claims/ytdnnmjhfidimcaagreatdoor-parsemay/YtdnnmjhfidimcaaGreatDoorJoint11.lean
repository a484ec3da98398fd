/- How many nodes a tree has. slices.ContainsFunc over nodes and over texts; whether a tree is too high. -/
import Derived.Test.YtdnnmjhfidimcaaGreatDoorJoint3
namespace Go.Proofs.YtdnnmjhfidimcaaGreatDoor
set_option maxHeartbeats 1600000
open Go.RowKit
theorem Hi {α:Type} (P:α→Bool) (l:List α) (h:∀ (q:Nat) (hq:q<l.length),P l[q]=false):l.any P=false:=by
 rw [List.any_eq_false];intro x hx;obtain⟨q,hq,rfl⟩:=List.getElem_of_mem hx;simp [h q hq]
theorem Dk {α:Type} (P:α→Bool) (l:List α) {q:Nat} (hq:q<l.length) (h:P l[q]=true):l.any P=true:=by
 rw [List.any_eq_true];exact⟨_,List.getElem_mem hq,h⟩
def Ql (P:Nd→Bool) (B:Nat) (cap:Value) (ks:List Nd) (w:World):Prop:=∀ x∈ks,∀ (w':World) (nv kv:Value),Below w.heap.size w w'→Hid (lB B w' x nv kv)→
  Calls Tryz.prog 59 #[.agg #[.int .i64 x.kind,.int .i64 x.op,.int .i64 x.num,.string x.str,nv,kv,.int .i64 x.pl],cap] w' fun e w''=>e=.returned (.bool (P x))∧Below w'.heap.size w' w''
theorem Nr (P:Nd→Bool) (B:Nat) (cap:Value) (w:World) (kv:Value) (ks:List Nd) (hB:B≤w.heap.size) (h1:Hid (dA B w kv ks)) (hc:ks.length≤1000000) (CL:Hid (Ql P B cap ks w)) :
  Calls Tryz.prog 84 #[kv,.func (.func 59) #[] #[cap]] w fun e w'=>(∃ r:Int,e=.returned (.int .i64 r)∧decide (0≤r)=ks.any P)∧Below w.heap.size w w':=by
 obtain⟨ao,cp,rfl,hks⟩:=eM h1.out;have K1:=aA hks;clear hks h1;go_enter Tryz.func84,Tryz.ntmps84;go_wp2_with fail;go_loopw [8] (fun i wr=>∃ j:Nat,j≤ks.length∧i=.int .i64 j∧(∀ (q:Nat) (hq:q<ks.length),q<j→P ks[q]=false)∧Below w.heap.size w wr) (fun i _=>ks.length - (intOf i).toNat)
 case atStart=>exact⟨0,Nat.zero_le _,rfl,fun q _ h=>absurd h (Nat.not_lt_zero _),Below.refl _ _⟩
 case round=>
  obtain⟨j,hj,rfl,hq,hb⟩:=hrel;have BB:=aA hb;by_cases hjl:j<ks.length
  ·obtain⟨b,off,rfl,hbB,hat⟩:=K1.out.resolve_left (fun h=>by rw [h] at hjl;cases hjl);obtain⟨nv1,kv1,hnode,hin⟩:=fZ hat j hjl;have hb':=hb.mono hB;obtain⟨c0,c1,c2,c3,c4,c5,c6⟩:=aG hnode hbB hb';have N1:=aA (iN hb' _ _ _ hin);have cl:=aA (CL.out ks[j] (List.getElem_mem hjl) wr nv1 kv1 hb N1);have HY:=aA (fun h=>Dk P ks hjl h);have HQ:=aA (fun (he:P ks[j]=false)=>show ∀ (q:Nat) (hq:q<ks.length),q<j+1→P ks[q]=false from fun q h1 h3=>by
    rcases Nat.lt_or_ge q j with h4 | h4
    ·exact hq q h1 h4
    ·obtain rfl:q=j:=by omega
     exact he)
   generalize ks[j]=x at *
   obtain⟨a1,q1,a2,q2,rfl,rfl⟩:=bY hin;clear hin hnode hat hb hb' K1 CL hq N1;go_wp2_with fail;refine cl.out.mono ?_;rintro e w1 ⟨rfl,b1⟩;have B1:=aA (aH BB.out (Nat.le_refl _) b1);clear b1 BB cl;generalize P x=sb at *
   cases sb
   ·have H:=aA (HQ.out rfl);clear HY HQ;go_wp2_with fail;go_roundw
    case rel=>exact⟨j+1,by omega,by go_num,H.out,B1.out⟩
    case measure=>simp [intOf];omega
   ·have H:=aA (HY.out rfl);clear HY HQ;go_wp2_with fail;go_ret;exact⟨⟨j,rfl,by rw [H.out];simp⟩,B1.out⟩
  ·have H:=aA (Hi P ks (fun q h1=>hq q h1 (by omega)));clear hq hb;go_wp2_with fail;go_ret;exact⟨⟨-1,rfl,by rw [H.out];rfl⟩,BB.out⟩
theorem ES (P:Nd→Bool) (B:Nat) (cap:Value) (w:World) (kv:Value) (ks:List Nd) (hB:B≤w.heap.size) (h1:Hid (dA B w kv ks)) (hc:ks.length≤1000000) (CL:Hid (Ql P B cap ks w)) :
  Calls Tryz.prog 58 #[kv,.func (.func 59) #[] #[cap]] w fun e w'=>e=.returned (.bool (ks.any P))∧Below w.heap.size w w':=by
 go_enter Tryz.func58,Tryz.ntmps58;go_wp2_with fail;refine (Nr P B cap w kv ks hB h1 hc CL).mono ?_;rintro e w1 ⟨⟨r,rfl,hr⟩,b1⟩;have B1:=aA b1;have HR:=aA hr;clear b1 hr;go_wp2_with fail;go_ret;exact⟨by rw [← HR.out];rfl,B1.out⟩
def IW (P:Nd→Bool) (B:Nat) (cap:Value) (ks:List Nd) (w:World):Prop:=∀ x∈ks,∀ (w':World) (nv kv:Value),Below w.heap.size w w'→Hid (lB B w' x nv kv)→
  Calls Tryz.prog 119 #[.agg #[.int .i64 x.kind,.int .i64 x.op,.int .i64 x.num,.string x.str,nv,kv,.int .i64 x.pl],cap] w' fun e w''=>e=.returned (.bool (P x))∧Below w'.heap.size w' w''
theorem Lj (P:Nd→Bool) (B:Nat) (cap:Value) (w:World) (kv:Value) (ks:List Nd) (hB:B≤w.heap.size) (h1:Hid (dA B w kv ks)) (hc:ks.length≤1000000) (CL:Hid (IW P B cap ks w)) :
  Calls Tryz.prog 84 #[kv,.func (.func 119) #[] #[cap]] w fun e w'=>(∃ r:Int,e=.returned (.int .i64 r)∧decide (0≤r)=ks.any P)∧Below w.heap.size w w':=by
 obtain⟨ao,cp,rfl,hks⟩:=eM h1.out;have K1:=aA hks;clear hks h1;go_enter Tryz.func84,Tryz.ntmps84;go_wp2_with fail;go_loopw [8] (fun i wr=>∃ j:Nat,j≤ks.length∧i=.int .i64 j∧(∀ (q:Nat) (hq:q<ks.length),q<j→P ks[q]=false)∧Below w.heap.size w wr) (fun i _=>ks.length - (intOf i).toNat)
 case atStart=>exact⟨0,Nat.zero_le _,rfl,fun q _ h=>absurd h (Nat.not_lt_zero _),Below.refl _ _⟩
 case round=>
  obtain⟨j,hj,rfl,hq,hb⟩:=hrel;have BB:=aA hb;by_cases hjl:j<ks.length
  ·obtain⟨b,off,rfl,hbB,hat⟩:=K1.out.resolve_left (fun h=>by rw [h] at hjl;cases hjl);obtain⟨nv1,kv1,hnode,hin⟩:=fZ hat j hjl;have hb':=hb.mono hB;obtain⟨c0,c1,c2,c3,c4,c5,c6⟩:=aG hnode hbB hb';have N1:=aA (iN hb' _ _ _ hin);have cl:=aA (CL.out ks[j] (List.getElem_mem hjl) wr nv1 kv1 hb N1);have HY:=aA (fun h=>Dk P ks hjl h);have HQ:=aA (fun (he:P ks[j]=false)=>show ∀ (q:Nat) (hq:q<ks.length),q<j+1→P ks[q]=false from fun q h1 h3=>by
    rcases Nat.lt_or_ge q j with h4 | h4
    ·exact hq q h1 h4
    ·obtain rfl:q=j:=by omega
     exact he)
   generalize ks[j]=x at *
   obtain⟨a1,q1,a2,q2,rfl,rfl⟩:=bY hin;clear hin hnode hat hb hb' K1 CL hq N1;go_wp2_with fail;refine cl.out.mono ?_;rintro e w1 ⟨rfl,b1⟩;have B1:=aA (aH BB.out (Nat.le_refl _) b1);clear b1 BB cl;generalize P x=sb at *
   cases sb
   ·have H:=aA (HQ.out rfl);clear HY HQ;go_wp2_with fail;go_roundw
    case rel=>exact⟨j+1,by omega,by go_num,H.out,B1.out⟩
    case measure=>simp [intOf];omega
   ·have H:=aA (HY.out rfl);clear HY HQ;go_wp2_with fail;go_ret;exact⟨⟨j,rfl,by rw [H.out];simp⟩,B1.out⟩
  ·have H:=aA (Hi P ks (fun q h1=>hq q h1 (by omega)));clear hq hb;go_wp2_with fail;go_ret;exact⟨⟨-1,rfl,by rw [H.out];rfl⟩,BB.out⟩
theorem vU (P:Nd→Bool) (B:Nat) (cap:Value) (w:World) (kv:Value) (ks:List Nd) (hB:B≤w.heap.size) (h1:Hid (dA B w kv ks)) (hc:ks.length≤1000000) (CL:Hid (IW P B cap ks w)) :
  Calls Tryz.prog 58 #[kv,.func (.func 119) #[] #[cap]] w fun e w'=>e=.returned (.bool (ks.any P))∧Below w.heap.size w w':=by
 go_enter Tryz.func58,Tryz.ntmps58;go_wp2_with fail;refine (Lj P B cap w kv ks hB h1 hc CL).mono ?_;rintro e w1 ⟨⟨r,rfl,hr⟩,b1⟩;have B1:=aA b1;have HR:=aA hr;clear b1 hr;go_wp2_with fail;go_ret;exact⟨by rw [← HR.out];rfl,B1.out⟩
def IX (P:ByteArray→Bool) (cap:Value) (ks:List ByteArray) (w:World):Prop:=∀ x∈ks,∀ (w':World),Below w.heap.size w w'→
  Calls Tryz.prog 167 #[.string x,cap] w' fun e w''=>e=.returned (.bool (P x))∧Below w'.heap.size w' w''
theorem Lk (P:ByteArray→Bool) (B:Nat) (cap:Value) (w:World) (kv:Value) (ks:List ByteArray) (hB:B≤w.heap.size) (h1:Hid (cA B kv ks w)) (hc:ks.length≤1000000) (CL:Hid (IX P cap ks w)) :
  Calls Tryz.prog 180 #[kv,.func (.func 167) #[] #[cap]] w fun e w'=>(∃ r:Int,e=.returned (.int .i64 r)∧decide (0≤r)=ks.any P)∧Below w.heap.size w w':=by
 obtain⟨ao,cp,rfl,hks⟩:=fS h1.out;have K1:=aA hks;clear hks h1;go_enter Tryz.func180,Tryz.ntmps180;go_wp2_with fail;go_loopw [8] (fun i wr=>∃ j:Nat,j≤ks.length∧i=.int .i64 j∧(∀ (q:Nat) (hq:q<ks.length),q<j→P ks[q]=false)∧Below w.heap.size w wr) (fun i _=>ks.length - (intOf i).toNat)
 case atStart=>exact⟨0,Nat.zero_le _,rfl,fun q _ h=>absurd h (Nat.not_lt_zero _),Below.refl _ _⟩
 case round=>
  obtain⟨j,hj,rfl,hq,hb⟩:=hrel;have BB:=aA hb;by_cases hjl:j<ks.length
  ·obtain⟨b,off,rfl,hbB,hat⟩:=K1.out.resolve_left (fun h=>by rw [h] at hjl;cases hjl);have c0:=cN (hb.mono hB) hbB (hat j hjl);have cl:=aA (CL.out ks[j] (List.getElem_mem hjl) wr hb);have HY:=aA (fun h=>Dk P ks hjl h);have HQ:=aA (fun (he:P ks[j]=false)=>show ∀ (q:Nat) (hq:q<ks.length),q<j+1→P ks[q]=false from fun q h1 h3=>by
    rcases Nat.lt_or_ge q j with h4 | h4
    ·exact hq q h1 h4
    ·obtain rfl:q=j:=by omega
     exact he)
   generalize ks[j]=x at *
   clear hat hb K1 CL hq;go_wp2_with fail;refine cl.out.mono ?_;rintro e w1 ⟨rfl,b1⟩;have B1:=aA (aH BB.out (Nat.le_refl _) b1);clear b1 BB cl;generalize P x=sb at *
   cases sb
   ·have H:=aA (HQ.out rfl);clear HY HQ;go_wp2_with fail;go_roundw
    case rel=>exact⟨j+1,by omega,by go_num,H.out,B1.out⟩
    case measure=>simp [intOf];omega
   ·have H:=aA (HY.out rfl);clear HY HQ;go_wp2_with fail;go_ret;exact⟨⟨j,rfl,by rw [H.out];simp⟩,B1.out⟩
  ·have H:=aA (Hi P ks (fun q h1=>hq q h1 (by omega)));clear hq hb;go_wp2_with fail;go_ret;exact⟨⟨-1,rfl,by rw [H.out];rfl⟩,BB.out⟩
theorem vV (P:ByteArray→Bool) (B:Nat) (cap:Value) (w:World) (kv:Value) (ks:List ByteArray) (hB:B≤w.heap.size) (h1:Hid (cA B kv ks w)) (hc:ks.length≤1000000) (CL:Hid (IX P cap ks w)) :
  Calls Tryz.prog 166 #[kv,.func (.func 167) #[] #[cap]] w fun e w'=>e=.returned (.bool (ks.any P))∧Below w.heap.size w w':=by
 go_enter Tryz.func166,Tryz.ntmps166;go_wp2_with fail;refine (Lk P B cap w kv ks hB h1 hc CL).mono ?_;rintro e w1 ⟨⟨r,rfl,hr⟩,b1⟩;have B1:=aA b1;have HR:=aA hr;clear b1 hr;go_wp2_with fail;go_ret;exact⟨by rw [← HR.out];rfl,B1.out⟩
theorem Ns {k o n:Int} {s:ByteArray} {ns:List ByteArray} {ks:List Nd} {p:Int} {m:Nat} (hm:m≠0):ks.any (fun x=>decide (m - 1<fF x))=decide (m<fF (.mk k o n s ns ks p)):=by
 have key:∀ ks:List Nd,ks.any (fun x=>decide (m - 1<fF x))=decide (m - 1<hD ks):=by
  intro ks;induction ks with
  | nil=>simp [hD]
  | cons x r ih=>
   rw [List.any_cons,ih,hD,Bool.eq_iff_iff,Bool.or_eq_true,decide_eq_true_iff,decide_eq_true_iff,decide_eq_true_iff];omega
 rw [key,fF,Bool.eq_iff_iff,decide_eq_true_iff,decide_eq_true_iff];omega
def Nw (x:Nd):Prop:=∀ (B:Nat) (w:World) (nv kv:Value) (m:Nat),B≤w.heap.size→Hid (lB B w x nv kv)→bH x≤1000000→m≤1000→
  Calls Tryz.prog 33 #[.agg #[.int .i64 x.kind,.int .i64 x.op,.int .i64 x.num,.string x.str,nv,kv,.int .i64 x.pl],.int .i64 m] w fun e w'=>
   e=.returned (.bool (decide (m<fF x)))∧Below w.heap.size w w'
theorem Hj (x:Nd) (hx:Nw x) (B:Nat) (w:World) (nv kv:Value) (g m:Nat) (hB:B≤w.heap.size) (hN:Hid (lB B w x nv kv)) (hc:bH x≤1000000) (hm:m≤1000) (hm0:m≠0) (hg:w.cell? ⟨g,0,none⟩=some (.int .i64 m)) (hgw:g<w.heap.size) :
  Calls Tryz.prog 59 #[.agg #[.int .i64 x.kind,.int .i64 x.op,.int .i64 x.num,.string x.str,nv,kv,.int .i64 x.pl],.pointer (some ⟨g,0,none⟩)] w fun e w'=>
   e=.returned (.bool (decide (m - 1<fF x)))∧Below w.heap.size w w':=by
 obtain⟨a1,q1,a2,q2,rfl,rfl⟩:=bY hN.out;have hal:=(Below.refl w.heap.size w).alloc (Nat.le_refl _) (.cells #[.int .i64 x.kind,.int .i64 x.op,.int .i64 x.num,.string x.str,.slice a1 x.names.length q1,.slice a2 x.kids.length q2,.int .i64 x.pl] 26);have AL:=aA hal;have N:=aA (iN (hal.mono hB) _ _ _ hN.out);have HX:=aA hx;have EH:=aA (show ((m:Int) - 1)=((m - 1:Nat):Int) by omega);clear hal hN hx;go_enter Tryz.func59,Tryz.ntmps59;go_wp2_with fail;rw [EH.out];refine (HX.out B _ _ _ (m - 1) (by simp;omega) N hc (by omega)).mono ?_;rintro e w1 ⟨rfl,b1⟩;have B1:=aA (aH AL.out (by simp) b1);clear b1 AL N;go_wp2_with fail;go_ret;exact⟨rfl,B1.out⟩
theorem Dl (x:Nd):Nw x:=by
 refine Nd.ind ?_ x;clear x;intro k o n s ns ks p ih B w nv kv m hB hN hc hm;obtain⟨hs,hk⟩:=ndIn_mk.1 hN.out;obtain⟨a1,q1,a2,q2,rfl,rfl⟩:=bY hN.out;simp only [Nd.kind,Nd.op,Nd.num,Nd.str,Nd.pl,Nd.names,Nd.kids] at *
 simp only [bH] at hc;have hlen:=dW ks;have hal:=kE w (.cells #[.int .i64 k,.int .i64 o,.int .i64 n,.string s,.slice a1 ns.length q1,.slice a2 ks.length q2,.int .i64 p] 26) (.cells #[.int .i64 m] 3);by_cases h0:m=0
 ·have e0:((m:Int)==0)=true:=beq_iff_eq.2 (by omega);have H:=aA (show decide (m<fF (.mk k o n s ns ks p))=true by rw [decide_eq_true_iff,h0];exact Jx _);have AL:=aA hal;clear h0 hal hs hk hN;go_enter Tryz.func33,Tryz.ntmps33;go_wp2_with fail;go_ret;exact⟨by rw [H.out];rfl,AL.out⟩
 ·have e0:((m:Int)==0)=false:=beq_eq_false_iff_ne.2 (by omega);have hmf:∀ (fn:Fn) (first cap:Array Value) (w:World),(Instr.makeFunc fn first cap).run Tryz.prog w=.ok (.func fn first cap) w:=fun _ _ _ _=>rfl
  have K:=aA (dV (hal.mono hB) hk);have H:=aA (Ns (k:=k) (o:=o) (n:=n) (s:=s) (ns:=ns) (ks:=ks) (p:=p) h0);have AL:=aA hal;have CL:Hid (Ql (fun x=>decide (m - 1<fF x)) B (.pointer (some ⟨w.heap.size+1,0,none⟩)) ks ((w.alloc (.cells #[.int .i64 k,.int .i64 o,.int .i64 n,.string s,.slice a1 ns.length q1,.slice a2 ks.length q2,.int .i64 p] 26)).alloc (.cells #[.int .i64 m] 3))):=by
   intro x hx w' nv' kv' hb hin;have hcm:=jA hx;have hz:=hb.size;simp only [World.size_alloc] at hz;refine Hj x (ih x hx) B w' nv' kv' (w.heap.size+1) m (by omega) hin (by omega) hm h0 ?_ (by omega);refine cN hb (by simp) ?_;simp
  clear hal hs hk hN h0 ih;go_enter Tryz.func33,Tryz.ntmps33;go_wp2_with fail;refine (ES (fun x=>decide (m - 1<fF x)) B _ _ _ ks (by simp;omega) K (by omega) CL).mono ?_;rintro e w1 ⟨rfl,b1⟩;have B1:=aA (aH AL.out (by simp) b1);clear b1 AL K CL;rw [H.out];go_wp2_with fail;go_ret;exact⟨rfl,B1.out⟩
end Go.Proofs.YtdnnmjhfidimcaaGreatDoor
