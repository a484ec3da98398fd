/- Where calls stand; signs and built-in calls. Whether two trees are alike. A copy of a node with just the fields that its kind has; signs and built-in calls. -/
import Derived.Test.YtdnnmjhfidimcaaGreatDoorJoint3
import Derived.Test.YtdnnmjhfidimcaaGreatDoorJoint4
import Derived.Test.YtdnnmjhfidimcaaGreatDoorJoint11
import Derived.Test.YtdnnmjhfidimcaaGreatDoorJoint2
namespace Go.Proofs.YtdnnmjhfidimcaaGreatDoor
set_option maxHeartbeats 3200000
open Go.RowKit
def Ok (B:Nat) (w:World):Prop:=B≤w.heap.size∧1<B∧iZ 1 tsgnL w
theorem aR {B:Nat} {a c:World} (h:Ok B a) (q:Below B a c):Ok B c:=
 ⟨Nat.le_trans h.1 q.size,h.2.1,fun i hi=>cN q h.2.1 (h.2.2 i hi)⟩
theorem qE (o:Int) (B:Nat) (w:World) (hO:Hid (Ok B w)) :
  Calls Tryz.prog 139 #[.int .i64 o] w fun e w'=>e=.returned (.string ⟨(signT o).toArray⟩)∧w=w':=by
 by_cases h0:o<0
 ·have H:=aA (show signT o=[] by unfold signT;rw [if_pos h0]);go_enter Tryz.func139,Tryz.ntmps139;go_wp2_with fail;go_ret;exact⟨by rw [H.out];rfl,rfl⟩
 have d0:decide (o<0)=false:=decide_eq_false h0;by_cases h1:12≤o
 ·have H:=aA (show signT o=[] by
   unfold signT;rw [if_neg h0,List.getD_eq_getElem?_getD,List.getElem?_eq_none (by simp [tsgnL];omega)];rfl)
  go_enter Tryz.func139,Tryz.ntmps139;go_wp2_with fail;go_ret;exact⟨by rw [H.out];rfl,rfl⟩
 have d1:decide (12≤o)=false:=decide_eq_false h1;obtain⟨j,rfl⟩:∃ j:Nat,o=(j:Int):=⟨o.toNat,by omega⟩
 have hj:j<tsgnL.length:=by show j<12;omega
 have c:=hO.out.2.2 j hj;have H:=aA (show signT (j:Int)=tsgnL[j] by
  unfold signT;rw [if_neg h0,List.getD_eq_getElem?_getD,Int.toNat_natCast,List.getElem?_eq_getElem hj];rfl)
 have hj12:j<12:=hj;clear hO;generalize tsgnL[j]=x at *
 go_enter Tryz.func139,Tryz.ntmps139;go_wp2_with fail;go_ret;exact⟨by rw [H.out];rfl,rfl⟩
theorem nJ (o:Int) (w:World) :
  Calls Tryz.prog 147 #[.int .i64 o] w fun e w'=>e=.returned (.tuple #[.string ⟨(builtT o).1.toArray⟩,.int .i64 (builtT o).2])∧w=w':=by
 by_cases h:1≤o∧o≤7
 ·obtain rfl | rfl | rfl | rfl | rfl | rfl | rfl:o=1∨o=2∨o=3∨o=4∨o=5∨o=6∨o=7:=by omega
  all_goals
   clear h;go_enter Tryz.func147,Tryz.ntmps147;go_wp2_with fail;go_ret2;exact⟨rfl,rfl⟩
 ·have H:=aA (show builtT o=([],0) by
   unfold builtT;by_cases h0:o<0
   ·rw [if_pos h0]
   ·rw [if_neg h0];by_cases h1:o=0
    ·subst h1;rfl
    ·rw [List.getD_eq_getElem?_getD,List.getElem?_eq_none (by simp [builtL];omega)];rfl)
  have e1:(o==1)=false:=beq_eq_false_iff_ne.2 (by omega);have e2:(o==2)=false:=beq_eq_false_iff_ne.2 (by omega);have e3:(o==3)=false:=beq_eq_false_iff_ne.2 (by omega);have e4:(o==4)=false:=beq_eq_false_iff_ne.2 (by omega);have e5:(o==5)=false:=beq_eq_false_iff_ne.2 (by omega);have e6:(o==6)=false:=beq_eq_false_iff_ne.2 (by omega);have e7:(o==7)=false:=beq_eq_false_iff_ne.2 (by omega);clear h;go_enter Tryz.func147,Tryz.ntmps147;go_wp2_with fail;go_ret2;exact⟨by rw [H.out];rfl,rfl⟩
theorem gJ {B:Nat} {w:World} {a:Option Addr} {c q:Nat} {ks:List Nd} (h:dA B w (.slice a c q) ks) (hl:ks≠[]):∃ b off,a=some ⟨b,off,none⟩∧b<B∧jZ B w b ks off:=by
 rcases h with ⟨_,_,_,h⟩ | ⟨b,off,cap,e,hb,h,_⟩
 ·exact absurd h hl
 ·injection e with e1 e2 e3;exact⟨b,off,e1,hb,h⟩
theorem nK {α:Type} {l:List α} (h:l.length=2):∃ a b,l=[a,b]:=by
 match l,h with
 | [a,b],_=>exact⟨a,b,rfl⟩
theorem tW {α:Type} {l:List α} (h:l.length=3):∃ a b c,l=[a,b,c]:=by
 match l,h with
 | [a,b,c],_=>exact⟨a,b,c,rfl⟩
theorem yR (s t:ByteArray):(s.toList==t.toList)=(s.data.toList==t.data.toList):=by rw [Lib.toList_data,Lib.toList_data]
theorem ET (B:Nat) (w:World) (v v':Value) (l l':List ByteArray) (hB:B≤w.heap.size) (h1:Hid (cA B v l w)) (h2:Hid (cA B v' l' w)) (hc:l.length≤1000000) :
  Calls Tryz.prog 57 #[v,v'] w fun e w'=>e=.returned (.bool (namesB l l'))∧Below w.heap.size w w':=by
 obtain⟨ao,cap,rfl,hss⟩:=fS h1.out;obtain⟨ao',cap',rfl,hss'⟩:=fS h2.out;have S1:=aA hss;have S2:=aA hss';clear hss hss' h1 h2;by_cases hl:l.length=l'.length
 ·have e0:((l.length:Int) != (l'.length:Int))=false:=by rw [hl];simp
  go_enter Tryz.func57,Tryz.ntmps57;go_wp2_with fail;go_loopw [13] (fun i wr=>∃ j:Nat,j≤l.length∧i=.int .i64 j∧(∀ (q:Nat) (hq:q<l.length) (hq':q<l'.length),q<j→l[q].data.toList=l'[q].data.toList)∧Below w.heap.size w wr) (fun i _=>l.length - (intOf i).toNat)
  case atStart=>exact⟨0,Nat.zero_le _,rfl,fun q _ _ h=>absurd h (Nat.not_lt_zero _),Below.refl _ _⟩
  case round=>
   obtain⟨j,hj,rfl,hq,hb⟩:=hrel;have BB:=aA hb;by_cases hjl:j<l.length
   ·have hjl':j<l'.length:=by omega
    obtain⟨b,off,rfl,hbB,hat⟩:=S1.out.resolve_left (fun h=>by rw [h] at hjl;cases hjl);obtain⟨b',off',rfl,hbB',hat'⟩:=S2.out.resolve_left (fun h=>by rw [h] at hjl';cases hjl');have c0:=cN (hb.mono hB) hbB (hat j hjl);have c1:=cN (hb.mono hB) hbB' (hat' j hjl');have HN:=aA (fun hn=>Jz (l:=l) (m:=l') hjl hjl' hn);have HQ:=aA (fun (he:l[j].data.toList=l'[j].data.toList)=>show ∀ (q:Nat) (hq:q<l.length) (hq':q<l'.length),q<j+1→l[q].data.toList=l'[q].data.toList from fun q h1 h2 h3=>by
     rcases Nat.lt_or_ge q j with h4 | h4
     ·exact hq q h1 h2 h4
     ·obtain rfl:q=j:=by omega
      exact he)
    clear hq hat hat' hb S1 S2;generalize l[j]=x at *
    generalize l'[j]=y at *
    cases hxy:(x.toList==y.toList) with
    | true=>
     have hne:(x.toList != y.toList)=false:=by simp [bne,hxy]
     have H:=aA (HQ.out (by rw [yR] at hxy;exact beq_iff_eq.1 hxy));clear HQ HN;go_wp2_with fail;go_region;all_goals
      go_wp2_with fail;go_roundw
      case rel=>exact⟨j+1,by omega,by go_num,H.out,BB.out.drew⟩
      case measure=>simp [intOf];omega
    | false=>
     have hne:(x.toList != y.toList)=true:=by simp [bne,hxy]
     have H:=aA (HN.out (by rw [yR] at hxy;exact beq_eq_false_iff_ne.1 hxy));clear HQ HN;go_wp2_with fail;go_region;all_goals
      go_wp2_with fail;go_ret;exact⟨by rw [H.out];rfl,BB.out.drew⟩
   ·have H:=aA (Jy hl (fun q h1 h2=>hq q h1 h2 (by omega)));clear hq hb;go_wp2_with fail;go_ret;exact⟨by rw [H.out];rfl,BB.out⟩
 ·have H:=aA (DA hl);have e0:((l.length:Int) != (l'.length:Int))=true:=by rw [bne_iff_ne];omega
  clear hl;go_enter Tryz.func57,Tryz.ntmps57;go_wp2_with fail;go_ret;exact⟨by rw [H.out];rfl,Below.refl _ _⟩
theorem xY (B:Nat) (w:World) (k o n:Int) (s:ByteArray) (ns:List ByteArray) (nv:Value) (a:Option Addr) (c q:Nat) (p k' o' n':Int) (s':ByteArray) (ns':List ByteArray) (nv':Value) (a':Option Addr) (c' q':Nat) (p':Int)
  (hB:B≤w.heap.size) (h1:Hid (cA B nv ns w)) (h2:Hid (cA B nv' ns' w)) (hc:ns.length≤1000000) :
  Calls Tryz.prog 31 #[.agg #[.int .i64 k,.int .i64 o,.int .i64 n,.string s,nv,.slice a c q,.int .i64 p],.agg #[.int .i64 k',.int .i64 o',.int .i64 n',.string s',nv',.slice a' c' q',.int .i64 p']] w fun e w'=>
   e=.returned (.bool (alikeB k o n s ns c k' o' n' s' ns' c'))∧Below w.heap.size w w':=by
 obtain⟨ao,cap,rfl,_⟩:=fS h1.out;obtain⟨ao',cap',rfl,_⟩:=fS h2.out;have hal:=kE w (.cells #[.int .i64 k,.int .i64 o,.int .i64 n,.string s,.slice ao ns.length cap,.slice a c q,.int .i64 p] 26) (.cells #[.int .i64 k',.int .i64 o',.int .i64 n',.string s',.slice ao' ns'.length cap',.slice a' c' q',.int .i64 p'] 26);have AL:=aA hal;have T1:=aA (eB h1.out (hal.mono hB));have T2:=aA (eB h2.out (hal.mono hB));clear hal h1 h2;cases ek:(k==k') with
 | false=>
  have H:=aA (show alikeB k o n s ns c k' o' n' s' ns' c'=false by unfold alikeB;rw [ek];simp);go_enter Tryz.func31,Tryz.ntmps31;go_wp2_with fail;go_ret;exact⟨by rw [H.out];rfl,AL.out⟩
 | true=>
 cases eo:(o==o') with
 | false=>
  have H:=aA (show alikeB k o n s ns c k' o' n' s' ns' c'=false by unfold alikeB;rw [eo];simp);go_enter Tryz.func31,Tryz.ntmps31;go_wp2_with fail;go_ret;exact⟨by rw [H.out];rfl,AL.out⟩
 | true=>
 cases en:(n==n') with
 | false=>
  have H:=aA (show alikeB k o n s ns c k' o' n' s' ns' c'=false by unfold alikeB;rw [en];simp);go_enter Tryz.func31,Tryz.ntmps31;go_wp2_with fail;go_ret;exact⟨by rw [H.out];rfl,AL.out⟩
 | true=>
 cases es:(s.toList==s'.toList) with
 | false=>
  have es':=es;rw [yR] at es';have H:=aA (show alikeB k o n s ns c k' o' n' s' ns' c'=false by unfold alikeB;rw [es'];simp);clear es';go_enter Tryz.func31,Tryz.ntmps31;go_wp2_with fail;go_ret;exact⟨by rw [H.out];rfl,AL.out⟩
 | true=>
  have es':=es;rw [yR] at es';have H:=aA (show alikeB k o n s ns c k' o' n' s' ns' c'=(namesB ns ns'&&((c:Int)==(c':Int))) by
   unfold alikeB;rw [ek,eo,en,es',Bool.true_and,Bool.true_and,Bool.true_and,Bool.true_and];congr 1;rw [Bool.eq_iff_iff,beq_iff_eq,beq_iff_eq];omega)
  clear es';go_enter Tryz.func31,Tryz.ntmps31;go_wp2_with fail;refine (ET B _ _ _ ns ns' (by simp;omega) T1 T2 hc).mono ?_;rintro e w1 ⟨rfl,b1⟩;have B1:=aA (aH AL.out (by simp) b1);have hw:=b1.size;obtain⟨g0,g1⟩:w1.cell? ⟨w.heap.size,5,none⟩=some (.slice a c q)∧w1.cell? ⟨w.heap.size+1,5,none⟩=some (.slice a' c' q'):=by
   refine⟨cN b1 (by simp;omega) ?_,cN b1 (by simp) ?_⟩
   ·simp [World.cell?_alloc_past]
   ·simp
  clear b1 AL T1 T2 hw;generalize namesB ns ns'=nb at *
  cases nb
  ·go_wp2_with fail;go_ret;exact⟨by rw [H.out];rfl,B1.out⟩
  ·go_wp2_with fail;go_ret;exact⟨by rw [H.out];rfl,B1.out⟩
def Nx (x:Nd):Prop:=∀ (y:Nd) (B:Nat) (w:World) (nv kv nv' kv':Value),B≤w.heap.size→Hid (lB B w x nv kv)→Hid (lB B w y nv' kv')→dO x=true→bH x≤1000000→
  Calls Tryz.prog 17 #[.agg #[.int .i64 x.kind,.int .i64 x.op,.int .i64 x.num,.string x.str,nv,kv,.int .i64 x.pl],.agg #[.int .i64 y.kind,.int .i64 y.op,.int .i64 y.num,.string y.str,nv',kv',.int .i64 y.pl]] w fun e w'=>
   e=.returned (.bool (sameN x y))∧Below w.heap.size w w'
theorem yD (B:Nat) (w:World) (kv kv':Value) (ks ks':List Nd) (hB:B≤w.heap.size) (h1:Hid (dA B w kv ks)) (h2:Hid (dA B w kv' ks')) (hsm:∀ x∈ks,dO x=true) (hc:bU ks≤1000000) (IH:Hid (∀ x∈ks,Nx x)) :
  Calls Tryz.prog 32 #[kv,kv',.func (.func 17) #[] #[]] w fun e w'=>e=.returned (.bool (kT ks ks'))∧Below w.heap.size w w':=by
 obtain⟨ao,cap,rfl,hks⟩:=eM h1.out;obtain⟨ao',cap',rfl,hks'⟩:=eM h2.out;have K1:=aA hks;have K2:=aA hks';clear hks hks' h1 h2;have hlen:=dW ks;by_cases hl:ks.length=ks'.length
 ·have e0:((ks.length:Int) != (ks'.length:Int))=false:=by rw [hl];simp
  have HL:=aA hl;clear hl;go_enter Tryz.func32,Tryz.ntmps32;go_wp2_with fail;go_loopw [17] (fun i wr=>∃ j:Nat,j≤ks.length∧i=.int .i64 j∧(∀ (q:Nat) (hq:q<ks.length) (hq':q<ks'.length),q<j→sameN ks[q] ks'[q]=true)∧Below w.heap.size w wr) (fun i _=>ks.length - (intOf i).toNat)
  case atStart=>exact⟨0,Nat.zero_le _,rfl,fun q _ _ h=>absurd h (Nat.not_lt_zero _),Below.refl _ _⟩
  case round=>
   obtain⟨j,hj,rfl,hq,hb⟩:=hrel;have BB:=aA hb;by_cases hjl:j<ks.length
   ·have hjl':j<ks'.length:=by have:=HL.out;omega
    obtain⟨b,off,rfl,hbB,hat⟩:=K1.out.resolve_left (fun h=>by rw [h] at hjl;cases hjl);obtain⟨b',off',rfl,hbB',hat'⟩:=K2.out.resolve_left (fun h=>by rw [h] at hjl';cases hjl');obtain⟨nv1,kv1,hnode,hin⟩:=fZ hat j hjl;obtain⟨nv2,kv2,hnode',hin'⟩:=fZ hat' j hjl';have hb':=hb.mono hB;obtain⟨c0,c1,c2,c3,c4,c5,c6⟩:=aG hnode hbB hb';obtain⟨d0,d1,d2,d3,d4,d5,d6⟩:=aG hnode' hbB' hb';have hin2:=iN hb' _ _ _ hin;have hin2':=iN hb' _ _ _ hin';have ih:=IH.out ks[j] (List.getElem_mem hjl);have hs1:=hsm ks[j] (List.getElem_mem hjl);have hcm:=jA (List.getElem_mem hjl);have HN:=aA (fun hn=>Bx ks ks' j hjl hjl' hn);have HQ:=aA (fun (he:sameN ks[j] ks'[j]=true)=>show ∀ (q:Nat) (hq:q<ks.length) (hq':q<ks'.length),q<j+1→sameN ks[q] ks'[q]=true from fun q h1 h2 h3=>by
     rcases Nat.lt_or_ge q j with h4 | h4
     ·exact hq q h1 h2 h4
     ·obtain rfl:q=j:=by omega
      exact he)
    generalize ks[j]=x at *
    generalize ks'[j]=y at *
    have N1:=aA hin2;have N2:=aA hin2';have HS:=aA hs1;have hsz:=hb.size;have hbw:b<wr.heap.size:=by omega
    have hbw':b'<wr.heap.size:=by omega
    obtain⟨a1,q1,a2,q2,rfl,rfl⟩:=bY hin;obtain⟨a3,q3,a4,q4,rfl,rfl⟩:=bY hin';have IH':=aA ih;clear hin hin' hin2 hin2' hnode hnode' hat hat' hb hb' ih K1 K2 IH hq hs1 hsm;go_wp2_with fail;refine (IH'.out y B _ _ _ _ _ (by simp;omega) (aA (iN ((kE wr _ _).mono (by omega)) _ _ _ N1.out)) (aA (iN ((kE wr _ _).mono (by omega)) _ _ _ N2.out)) HS.out (by omega)).mono ?_;rintro e w1 ⟨rfl,b1⟩;have B1:=aA (aH (BB.out.trans ((kE wr _ _).mono hsz)) (by simp) b1);clear b1 BB N1 N2;generalize sameN x y=sb at *
    cases sb
    ·have H:=aA (HN.out rfl);clear HN HQ;go_wp2_with fail;go_ret;exact⟨by rw [H.out];rfl,B1.out⟩
    ·have H:=aA (HQ.out rfl);clear HN HQ;go_wp2_with fail;go_roundw
     case rel=>exact⟨j+1,by omega,by go_num,H.out,B1.out⟩
     case measure=>simp [intOf];omega
   ·have H:=aA (Bw ks ks' HL.out (fun q h1 h2=>hq q h1 h2 (by omega)));clear hq hb;go_wp2_with fail;go_ret;exact⟨by rw [H.out];rfl,BB.out⟩
 ·have H:=aA (Dz ks ks' hl);have e0:((ks.length:Int) != (ks'.length:Int))=true:=by rw [bne_iff_ne];omega
  clear hl;go_enter Tryz.func32,Tryz.ntmps32;go_wp2_with fail;go_ret;exact⟨by rw [H.out];rfl,Below.refl _ _⟩
theorem AJ (x:Nd):Nx x:=by
 refine Nd.ind ?_ x;clear x;intro k o n s ns ks p ih y B w nv kv nv' kv' hB h1 h2 hsm hc;obtain⟨k',o',n',s',ns',ks',p'⟩:=y;obtain⟨_,hns,_,hsk⟩:=lC hsm;simp only [bH] at hc;obtain⟨hs1,hk1⟩:=ndIn_mk.1 h1.out;obtain⟨hs2,hk2⟩:=ndIn_mk.1 h2.out;obtain⟨a1,q1,a2,q2,rfl,rfl⟩:=bY h1.out;obtain⟨a3,q3,a4,q4,rfl,rfl⟩:=bY h2.out;simp only [Nd.kind,Nd.op,Nd.num,Nd.str,Nd.pl,Nd.names,Nd.kids] at *
 have hal:=kE w (.cells #[.int .i64 k,.int .i64 o,.int .i64 n,.string s,.slice a1 ns.length q1,.slice a2 ks.length q2,.int .i64 p] 26) (.cells #[.int .i64 k',.int .i64 o',.int .i64 n',.string s',.slice a3 ns'.length q3,.slice a4 ks'.length q4,.int .i64 p'] 26);have AL:=aA hal;have S1:=aA (eB hs1 (hal.mono hB));have S2:=aA (eB hs2 (hal.mono hB));have K1:=aA (dV (hal.mono hB) hk1);have K2:=aA (dV (hal.mono hB) hk2);have HM:=aA (LD k o n s ns ks p k' o' n' s' ns' ks' p');have IH:=aA ih;clear ih hs1 hs2 hk1 hk2 h1 h2 hal hsm;go_enter Tryz.func17,Tryz.ntmps17;go_wp2_with fail;refine (xY B _ k o n s ns _ _ _ _ p k' o' n' s' ns' _ _ _ _ p' (by simp;omega) S1 S2 (by omega)).mono ?_;rintro e w1 ⟨rfl,b1⟩;have B1:=aA (aH AL.out (by simp) b1);have hw:=b1.size;obtain⟨g0,g1⟩:w1.cell? ⟨w.heap.size,5,none⟩=some (.slice a2 ks.length q2)∧w1.cell? ⟨w.heap.size+1,5,none⟩=some (.slice a4 ks'.length q4):=by
  refine⟨cN b1 (by simp;omega) ?_,cN b1 (by simp) ?_⟩
  ·simp [World.cell?_alloc_past]
  ·simp
 have K1':=aA (dV (b1.mono (by simp;omega)) K1.out);have K2':=aA (dV (b1.mono (by simp;omega)) K2.out);have hB1:B≤w1.heap.size:=by simp at hw;omega
 clear b1 AL S1 S2 hw K1 K2;generalize alikeB k o n s ns ks.length k' o' n' s' ns' ks'.length=ab at *
 cases ab
 ·go_wp2_with fail;go_ret;exact⟨by rw [HM.out];rfl,B1.out⟩
 ·go_wp2_with fail;refine (yD B _ _ _ ks ks' hB1 K1' K2' hsk (by omega) IH).mono ?_;rintro e w2 ⟨rfl,b2⟩;go_wp2_with fail;go_ret;exact⟨by rw [HM.out];rfl,aH B1.out (Nat.le_refl _) b2⟩
def dC (k:Int):Bool:=k==9||k==10||k==17
def cC (k:Int):Bool:=k==2||k==3
def cG (k:Int):Bool:=k==4||k==5||k==13||k==16||k==21||k==22||k==23||k==25
def cS (k:Int):Bool:=k==7||k==8
def eQ (k:Int):Bool:=k==1||k==6||k==2||k==3||k==4||k==5
theorem mP {fn:Func} {t:Tmp} (h:fn.results=#[.cell t 26]) {tmps:Array Value} {g:Nat} {w:World} {x0 x1 x2 x3 x4 x5 x6:Value} (ht:tmps.getD t undef=.pointer (some ⟨g,0,none⟩))
  (c:w.cell? ⟨g,0,none⟩=some x0∧w.cell? ⟨g,1,none⟩=some x1∧w.cell? ⟨g,2,none⟩=some x2∧w.cell? ⟨g,3,none⟩=some x3∧w.cell? ⟨g,4,none⟩=some x4∧w.cell? ⟨g,5,none⟩=some x5∧w.cell? ⟨g,6,none⟩=some x6) :
  (results fn tmps).run Tryz.prog w=.ok (.agg #[x0,x1,x2,x3,x4,x5,x6]) w:=by
 rw [Array.getD_eq_getD_getElem?] at ht;simp [results,h,ht,go_sem,asAddr,c.1,c.2.1,c.2.2.1,c.2.2.2.1,c.2.2.2.2.1,c.2.2.2.2.2.1,c.2.2.2.2.2.2]
theorem dL (w:World) (x y z:Obj):Below w.heap.size w (((w.alloc x).alloc y).alloc z):=(((Below.refl _ _).alloc (Nat.le_refl _) _).alloc (by simp) _).alloc (by simp;omega) _
theorem dM (w:World) (x z:Obj) (y0 y1 y2 y3 y4 y5 y6:Value) :
  (((w.alloc x).alloc (.cells #[y0,y1,y2,y3,y4,y5,y6] 26)).alloc z).cell? ⟨w.heap.size+1,0,none⟩=some y0∧(((w.alloc x).alloc (.cells #[y0,y1,y2,y3,y4,y5,y6] 26)).alloc z).cell? ⟨w.heap.size+1,1,none⟩=some y1∧
  (((w.alloc x).alloc (.cells #[y0,y1,y2,y3,y4,y5,y6] 26)).alloc z).cell? ⟨w.heap.size+1,2,none⟩=some y2∧(((w.alloc x).alloc (.cells #[y0,y1,y2,y3,y4,y5,y6] 26)).alloc z).cell? ⟨w.heap.size+1,3,none⟩=some y3∧
  (((w.alloc x).alloc (.cells #[y0,y1,y2,y3,y4,y5,y6] 26)).alloc z).cell? ⟨w.heap.size+1,4,none⟩=some y4∧(((w.alloc x).alloc (.cells #[y0,y1,y2,y3,y4,y5,y6] 26)).alloc z).cell? ⟨w.heap.size+1,5,none⟩=some y5∧
  (((w.alloc x).alloc (.cells #[y0,y1,y2,y3,y4,y5,y6] 26)).alloc z).cell? ⟨w.heap.size+1,6,none⟩=some y6:=by
 refine⟨?_,?_,?_,?_,?_,?_,?_⟩<;>simp [World.cell?_alloc_past]
theorem Hs (w:World) (k o n:Int) (s:ByteArray) (a1:Option Addr) (c1 q1:Nat) (a2:Option Addr) (c2 q2:Nat) (p:Int) :
  Calls Tryz.prog 60 #[.agg #[.int .i64 k,.int .i64 o,.int .i64 n,.string s,.slice a1 c1 q1,.slice a2 c2 q2,.int .i64 p]] w fun e w'=>
   e=.returned (.agg #[.int .i64 k,.int .i64 (cond (dC k) o 0),.int .i64 (cond (cC k) n 0),.string (cond (cG k) s ⟨#[]⟩),cond (cS k) (.slice a1 c1 q1) (.slice none 0 0),cond (eQ k) (.slice none 0 0) (.slice a2 c2 q2),.int .i64 0])∧Below w.heap.size w w':=by
 cases h1:(k==1) with
 | true=>
  obtain rfl:=beq_iff_eq.1 h1;clear h1;go_enter Tryz.func60,Tryz.ntmps60;go_wp2_with fail;exact bodyPost_ret (mP (g:=w.heap.size+1) rfl rfl (dM w _ _ _ _ _ _ _ _ _)) rfl ⟨rfl,dL w _ _ _⟩
 | false=>
 cases h6:(k==6) with
 | true=>
  obtain rfl:=beq_iff_eq.1 h6;clear h6;go_enter Tryz.func60,Tryz.ntmps60;go_wp2_with fail;exact bodyPost_ret (mP (g:=w.heap.size+1) rfl rfl (dM w _ _ _ _ _ _ _ _ _)) rfl ⟨rfl,dL w _ _ _⟩
 | false=>
 cases h2:(k==2) with
 | true=>
  obtain rfl:=beq_iff_eq.1 h2;clear h2;go_enter Tryz.func60,Tryz.ntmps60;go_wp2_with fail;exact bodyPost_ret (mP (g:=w.heap.size+1) rfl rfl (dM w _ _ _ _ _ _ _ _ _)) rfl ⟨rfl,dL w _ _ _⟩
 | false=>
 cases h3:(k==3) with
 | true=>
  obtain rfl:=beq_iff_eq.1 h3;clear h3;go_enter Tryz.func60,Tryz.ntmps60;go_wp2_with fail;exact bodyPost_ret (mP (g:=w.heap.size+1) rfl rfl (dM w _ _ _ _ _ _ _ _ _)) rfl ⟨rfl,dL w _ _ _⟩
 | false=>
 cases h4:(k==4) with
 | true=>
  obtain rfl:=beq_iff_eq.1 h4;clear h4;go_enter Tryz.func60,Tryz.ntmps60;go_wp2_with fail;exact bodyPost_ret (mP (g:=w.heap.size+1) rfl rfl (dM w _ _ _ _ _ _ _ _ _)) rfl ⟨rfl,dL w _ _ _⟩
 | false=>
 cases h5:(k==5) with
 | true=>
  obtain rfl:=beq_iff_eq.1 h5;clear h5;go_enter Tryz.func60,Tryz.ntmps60;go_wp2_with fail;exact bodyPost_ret (mP (g:=w.heap.size+1) rfl rfl (dM w _ _ _ _ _ _ _ _ _)) rfl ⟨rfl,dL w _ _ _⟩
 | false=>
 cases h13:(k==13) with
 | true=>
  obtain rfl:=beq_iff_eq.1 h13;clear h13;go_enter Tryz.func60,Tryz.ntmps60;go_wp2_with fail;exact bodyPost_ret (mP (g:=w.heap.size+1) rfl rfl (dM w _ _ _ _ _ _ _ _ _)) rfl ⟨rfl,dL w _ _ _⟩
 | false=>
 cases h16:(k==16) with
 | true=>
  obtain rfl:=beq_iff_eq.1 h16;clear h16;go_enter Tryz.func60,Tryz.ntmps60;go_wp2_with fail;exact bodyPost_ret (mP (g:=w.heap.size+1) rfl rfl (dM w _ _ _ _ _ _ _ _ _)) rfl ⟨rfl,dL w _ _ _⟩
 | false=>
 cases h21:(k==21) with
 | true=>
  obtain rfl:=beq_iff_eq.1 h21;clear h21;go_enter Tryz.func60,Tryz.ntmps60;go_wp2_with fail;exact bodyPost_ret (mP (g:=w.heap.size+1) rfl rfl (dM w _ _ _ _ _ _ _ _ _)) rfl ⟨rfl,dL w _ _ _⟩
 | false=>
 cases h22:(k==22) with
 | true=>
  obtain rfl:=beq_iff_eq.1 h22;clear h22;go_enter Tryz.func60,Tryz.ntmps60;go_wp2_with fail;exact bodyPost_ret (mP (g:=w.heap.size+1) rfl rfl (dM w _ _ _ _ _ _ _ _ _)) rfl ⟨rfl,dL w _ _ _⟩
 | false=>
 cases h23:(k==23) with
 | true=>
  obtain rfl:=beq_iff_eq.1 h23;clear h23;go_enter Tryz.func60,Tryz.ntmps60;go_wp2_with fail;exact bodyPost_ret (mP (g:=w.heap.size+1) rfl rfl (dM w _ _ _ _ _ _ _ _ _)) rfl ⟨rfl,dL w _ _ _⟩
 | false=>
 cases h25:(k==25) with
 | true=>
  obtain rfl:=beq_iff_eq.1 h25;clear h25;go_enter Tryz.func60,Tryz.ntmps60;go_wp2_with fail;exact bodyPost_ret (mP (g:=w.heap.size+1) rfl rfl (dM w _ _ _ _ _ _ _ _ _)) rfl ⟨rfl,dL w _ _ _⟩
 | false=>
 cases h7:(k==7) with
 | true=>
  obtain rfl:=beq_iff_eq.1 h7;clear h7;go_enter Tryz.func60,Tryz.ntmps60;go_wp2_with fail;exact bodyPost_ret (mP (g:=w.heap.size+1) rfl rfl (dM w _ _ _ _ _ _ _ _ _)) rfl ⟨rfl,dL w _ _ _⟩
 | false=>
 cases h8:(k==8) with
 | true=>
  obtain rfl:=beq_iff_eq.1 h8;clear h8;go_enter Tryz.func60,Tryz.ntmps60;go_wp2_with fail;exact bodyPost_ret (mP (g:=w.heap.size+1) rfl rfl (dM w _ _ _ _ _ _ _ _ _)) rfl ⟨rfl,dL w _ _ _⟩
 | false=>
 cases h9:(k==9) with
 | true=>
  obtain rfl:=beq_iff_eq.1 h9;clear h9;go_enter Tryz.func60,Tryz.ntmps60;go_wp2_with fail;exact bodyPost_ret (mP (g:=w.heap.size+1) rfl rfl (dM w _ _ _ _ _ _ _ _ _)) rfl ⟨rfl,dL w _ _ _⟩
 | false=>
 cases h10:(k==10) with
 | true=>
  obtain rfl:=beq_iff_eq.1 h10;clear h10;go_enter Tryz.func60,Tryz.ntmps60;go_wp2_with fail;exact bodyPost_ret (mP (g:=w.heap.size+1) rfl rfl (dM w _ _ _ _ _ _ _ _ _)) rfl ⟨rfl,dL w _ _ _⟩
 | false=>
 cases h17:(k==17) with
 | true=>
  obtain rfl:=beq_iff_eq.1 h17;clear h17;go_enter Tryz.func60,Tryz.ntmps60;go_wp2_with fail;exact bodyPost_ret (mP (g:=w.heap.size+1) rfl rfl (dM w _ _ _ _ _ _ _ _ _)) rfl ⟨rfl,dL w _ _ _⟩
 | false=>
 have H:=aA (show dC k=false∧cC k=false∧cG k=false∧cS k=false∧eQ k=false by simp only [dC,cC,cG,cS,eQ,h1,h6,h2,h3,h4,h5,h13,h16,h21,h22,h23,h25,h7,h8,h9,h10,h17,Bool.or_self];trivial);rw [H.out.1,H.out.2.1,H.out.2.2.1,H.out.2.2.2.1,H.out.2.2.2.2];go_enter Tryz.func60,Tryz.ntmps60;go_wp2_with fail;exact bodyPost_ret (mP (g:=w.heap.size+1) rfl rfl (dM w _ _ _ _ _ _ _ _ _)) rfl ⟨rfl,dL w _ _ _⟩
end Go.Proofs.YtdnnmjhfidimcaaGreatDoor
