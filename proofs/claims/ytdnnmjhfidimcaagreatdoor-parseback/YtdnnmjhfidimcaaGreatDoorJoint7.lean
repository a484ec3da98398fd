/- How high a tree is. What Parse and Expr tell, as plain functions. A node as it is written, as a plain function. How many nodes a tree has. How high a tree is, and how many nodes it has, as the document tells it; whether they are few. Whether a tree is small, as the document asks it. slices.ContainsFunc over nodes and over texts; whether a tree is too high. -/
import Derived.Test.YtdnnmjhfidimcaaGreatDoorJoint3
import Derived.Test.YtdnnmjhfidimcaaGreatDoorJoint1
import Derived.Test.YtdnnmjhfidimcaaGreatDoorJoint4
import Derived.Test.YtdnnmjhfidimcaaGreatDoorJoint2
namespace Go.Proofs.YtdnnmjhfidimcaaGreatDoor
set_option maxHeartbeats 3200000
open Go.RowKit
theorem On {α:Type} (l:List α) (i:Nat) (h:i<l.length):l.take (i+1)=l.take i++[l[i]]:=by
 rw [List.take_succ_eq_append_getElem h]
theorem DW (t:Nd):∀ (B:Nat) (w:World) (nv kv:Value),B≤w.heap.size→Hid (jS B w t nv kv)→bM t≤1000000→
  Calls Tryz.prog 39 #[.agg #[.int .i64 t.kind,.int .i64 t.op,.int .i64 t.num,.string t.str,nv,kv,.int .i64 t.pl]] w fun e w'=>
   e=.returned (.int .i64 (eZ t))∧Below w.heap.size w w':=by
 refine Nd.ind (P:=fun t=>∀ (B:Nat) (w:World) (nv kv:Value),B≤w.heap.size→Hid (jS B w t nv kv)→bM t≤1000000→
  Calls Tryz.prog 39 #[.agg #[.int .i64 t.kind,.int .i64 t.op,.int .i64 t.num,.string t.str,nv,kv,.int .i64 t.pl]] w fun e w'=>
   e=.returned (.int .i64 (eZ t))∧Below w.heap.size w w') ?_ t
 clear t;intro k o n s ns ks p ih B w nv kv hB hN hc;obtain⟨hs,hk⟩:=ndIn_mk.1 hN.out;obtain⟨ao,cap,rfl,hks⟩:=eA hk;clear hk hN hs;have hlen:=dZ ks;have hhc:=zD ks;simp only [bM] at hc;simp only [Nd.kind,Nd.op,Nd.num,Nd.str,Nd.pl];have IH:=aA ih;have KS:=aA hks;have HC:=aA (show eZ (.mk k o n s ns ks p)=gX ks+1 by simp [eZ]);clear ih hks;go_enter Tryz.func39,Tryz.ntmps39;go_wp2_with fail;go_loopw [3,9] (fun a i wr=>∃ j:Nat,j≤ks.length∧i=.int .i64 j∧a=.int .i64 (gX (ks.take j))∧Below w.heap.size w wr) (fun _ i _=>ks.length - (intOf i).toNat)
 case atStart=>exact⟨0,Nat.zero_le _,rfl,rfl,(Below.refl _ _).alloc (Nat.le_refl _) _⟩
 case round=>
  obtain⟨j,hj,rfl,rfl,hb⟩:=hrel;have hct:=AI ks j;by_cases hjl:j<ks.length
  ·obtain⟨b,off,rfl,hbB,hat⟩:=KS.out.resolve_left (fun h=>by rw [h] at hjl;cases hjl);obtain⟨nv',kv',hnode,hin⟩:=fZ hat j hjl;have hb':=hb.mono hB;obtain⟨c0,c1,c2,c3,c4,c5,c6⟩:=aH hnode hbB hb';have hin':=eQ hb' _ _ _ hin;have ih:=IH.out ks[j] (List.getElem_mem hjl);have hcm:=jM (List.getElem_mem hjl);have HT:=aA (show gX (ks.take (j+1))=max (gX (ks.take j)) (eZ ks[j]) by rw [On ks j hjl,Gs]);have hct1:=AI ks (j+1);rw [HT.out] at hct1;generalize ks[j]=x at *
   have N:=aA hin';have BB:=aA hb;have hsz:=hb.size;obtain⟨a1,q1,a2,q2,rfl,rfl⟩:=cC hin;have IH':=aA ih;clear hin hin' hnode hat hb hb' ih KS IH;go_wp2_with fail;refine (IH'.out B _ _ _ (by simp;omega) (aA (eQ ((Below.refl B wr).alloc (by omega) _) _ _ _ N.out)) (by omega)).mono ?_;rintro e w1 ⟨rfl,b1⟩;have B1:=aA ((BB.out.alloc hsz _).trans (b1.mono (by simp;omega)));clear b1 BB N;go_wp2_with fail;go_roundw
   case rel=>exact⟨j+1,by omega,by go_num,by rw [HT.out];go_num,B1.out⟩
   case measure=>simp [intOf];omega
  ·have e:ks.take j=ks:=List.take_of_length_le (by omega);have BB:=aA hb;clear hb;go_wp2_with fail;go_ret;exact⟨by rw [HC.out,e];rfl,BB.out⟩
def ndZ:Nd:=.mk 0 0 0 bz [] [] 0
def lK (f:Nat) (prog:Bool) (s:ByteArray):Nd×Int×Int:=
 if (tokOut s).2.2≠0 then (ndZ,(tokOut s).2.1,(tokOut s).2.2)
 else match rJ f prog (tokOut s).1 with
  | .bad l=>(ndZ,(cur l).pl,12)
  | .ok t _ _=>if 12<eZ t then (ndZ,0,13) else (t,0,0)
def iU (k n:Int) (s:ByteArray):List UInt8:=
 if k=1 then [110,117,108,108] else if k=6 then [116,104,105,115] else if k=2 then (if n=0 then [102,97,108,115,101] else [116,114,117,101])
 else if k=3 then digs n else if k=4 then lI s.data.toList else s.data.toList
structure Tx where
 kind:Int
 rank:Int
 e:List UInt8
 s:List UInt8
 b:List UInt8
 has:Bool
def Tx.none:Tx:=⟨0,0,[],[],[],false⟩
def cG (x:Tx) (least:Int):List UInt8:=if least≤x.rank then x.e else 40::(x.e++[41])
def nZ (l:List Tx):List UInt8:=l.flatMap fun x=>44::32::x.e
def jU:List Tx→List UInt8
 | []=>[]
 | x::r=>x.e++nZ r
def jE (l:List Tx):List UInt8:=40::(jU l++[41])
def nP (s:ByteArray) (x:Tx):List UInt8:=s.data.toList++(58::32::x.e)
def iE:List ByteArray→List Tx→List UInt8
 | s::ns,x::r=>44::32::(nP s x++iE ns r)
 | _,_=>[]
def pZ:List ByteArray→List Tx→List UInt8
 | s::ns,x::r=>123::(nP s x++iE ns r++[125])
 | _,_=>[123,125]
def oI:List ByteArray→List UInt8
 | []=>[]
 | s::r=>s.data.toList++r.flatMap fun x=>44::32::x.data.toList
def fU (l:List Tx):List UInt8:=l.flatMap fun x=>32::x.s
def blockT (l:List Tx):List UInt8:=123::(fU l++(if l.isEmpty then [125] else [32,125]))
def dX:List Tx→List UInt8
 | []=>[]
 | x::r=>x.s++fU r
def lQ (x:Tx) (s:ByteArray):List UInt8:=cG x 8++(46::s.data.toList)
def hM (x y:Tx):List UInt8:=cG x 8++(91::(y.e++[93]))
def dC (x:Tx):List UInt8:=32::61::32::x.e
def fT (r:Int) (sg:List UInt8) (x y:Tx):List UInt8:=cG x r++(32::(sg++(32::cG y (r+1))))
def sM (l:List Tx):Tx:=l.getD 0 Tx.none
def Cr (l:List Tx):Tx:=l.getD 1 Tx.none
def Ot (l:List Tx):Tx:=l.getD 2 Tx.none
def exprT (k o n:Int) (s:ByteArray) (ns:List ByteArray) (l:List Tx):List UInt8:=
 if k=7 then pZ ns l
 else if k=8 then [102,110,40]++(oI ns++([41,32]++blockT l))
 else if k=9 then (if o=1 then 45 else 33)::cG (sM l) 7
 else if k=10 then fT (rankT 10 o) (signT o) (sM l) (Cr l)
 else if k=11 then fT 2 [38,38] (sM l) (Cr l)
 else if k=12 then fT 1 [124,124] (sM l) (Cr l)
 else if k=13 then lQ (sM l) s
 else if k=14 then hM (sM l) (Cr l)
 else if k=15 then cG (sM l) (if (sM l).kind=13 then 9 else 8)++jE l.tail
 else if k=16 then lQ (sM l) s++jE l.tail
 else if k=17 then (builtT o).1++jE l
 else iU k n s
def By (k:Int) (s:ByteArray) (l:List Tx):List UInt8:=
 if k=21 then [108,101,116,32]++(s.data.toList++dC (sM l))
 else if k=22 then s.data.toList++dC (sM l)
 else if k=23 then lQ (sM l) s++dC (Cr l)
 else if k=24 then hM (sM l) (Cr l)++dC (Ot l)
 else if k=25 then [100,101,108,101,116,101,32]++lQ (sM l) s
 else if k=26 then [100,101,108,101,116,101,32]++hM (sM l) (Cr l)
 else if k=27 then [112,114,105,110,116,32]++(sM l).e
 else if k=31 then [114,101,116,117,114,110,32]++(sM l).e
 else if k=32 then (sM l).e else []
def dR (key:List UInt8) (x y:Tx):List UInt8:=key++([32,40]++(x.e++([41,32]++y.b)))
def stmtT (k:Int) (s:ByteArray) (l:List Tx):List UInt8:=
 if k=28 then dR [105,102] (sM l) (Cr l)++(if (Ot l).has then [32,101,108,115,101,32]++(Ot l).b else [])
 else if k=30 then dR [119,104,105,108,101] (sM l) (Cr l)
 else By k s l++[59]
mutual
def textN:Nd→Tx
 | .mk k o n s ns ks _=>⟨k,rankT k o,exprT k o n s ns (Bz ks),stmtT k s (Bz ks),blockT (Bz ks),!ks.isEmpty⟩
def Bz:List Nd→List Tx
 | []=>[]
 | x::r=>textN x::Bz r
end
theorem Dc:∀ l:List Nd,Bz l=l.map textN
 | []=>by rw [Bz];rfl
 | x::r=>by rw [Bz,Dc r];rfl
theorem mX (k o n:Int) (s:ByteArray) (ns:List ByteArray) (ks:List Nd) (p:Int) :
  textN (.mk k o n s ns ks p)=⟨k,rankT k o,exprT k o n s ns (ks.map textN),stmtT k s (ks.map textN),blockT (ks.map textN),!ks.isEmpty⟩:=by
 rw [textN,Dc]
def nQ (t:Nd):List UInt8:=dX (t.kids.map textN)
def lL (t:Nd):List UInt8×Int:=if checkN t≠0 then ([],checkN t) else if 2000<(nQ t).length then ([],3) else (nQ t,0)
def WroteT (l t l':List UInt8):Prop:=l'.length≤l.length+t.length∧((l.length+t.length≤2000∧l'=l++t)∨(2000<l.length+t.length∧2000<l'.length))
theorem WroteT.all (l t:List UInt8):WroteT l t (l++t):=by
 refine⟨by simp,?_⟩;rcases Nat.lt_or_ge 2000 (l.length+t.length) with h | h
 ·exact .inr ⟨h,by simpa using h⟩
 ·exact .inl ⟨h,rfl⟩
theorem WroteT.none {l:List UInt8} (h:2000<l.length) (t:List UInt8):WroteT l t l:=⟨by omega,.inr ⟨by omega,h⟩⟩
theorem WroteT.nil (l:List UInt8):WroteT l [] l:=by simpa using WroteT.all l []
theorem WroteT.trans {l t l' u l'':List UInt8} (h:WroteT l t l') (k:WroteT l' u l''):WroteT l (t++u) l'':=by
 obtain⟨h1,h2⟩:=h;obtain⟨k1,k2⟩:=k;refine⟨by simp;omega,?_⟩;rcases h2 with ⟨h2,e⟩ | ⟨h2,h3⟩
 ·subst e;rcases k2 with ⟨k2,e⟩ | ⟨k2,k3⟩
  ·exact .inl ⟨by simp at k2 ⊢;omega,by rw [e];simp⟩
  ·exact .inr ⟨by simp at k2 ⊢;omega,k3⟩
 ·rcases k2 with ⟨k2,e⟩ | ⟨k2,k3⟩
  ·omega
  ·exact .inr ⟨by simp;omega,k3⟩
theorem WroteT.of {l t l' u:List UInt8} (h:WroteT l t l') (e:t=u):WroteT l u l':=e▸h
theorem Jb (t:Nd):∀ (B:Nat) (w:World) (nv kv:Value) (m:Int) (h:Nat),B≤w.heap.size→Hid (jS B w t nv kv)→0≤m→m≤1000→h≤1000→
  Calls Tryz.prog 25 #[.agg #[.int .i64 t.kind,.int .i64 t.op,.int .i64 t.num,.string t.str,nv,kv,.int .i64 t.pl],.int .i64 m,.int .i64 h] w fun e w'=>
   e=.returned (.int .i64 (leftN t m h))∧Below w.heap.size w w':=by
 refine Nd.ind (P:=fun t=>∀ (B:Nat) (w:World) (nv kv:Value) (m:Int) (h:Nat),B≤w.heap.size→Hid (jS B w t nv kv)→0≤m→m≤1000→h≤1000→
  Calls Tryz.prog 25 #[.agg #[.int .i64 t.kind,.int .i64 t.op,.int .i64 t.num,.string t.str,nv,kv,.int .i64 t.pl],.int .i64 m,.int .i64 h] w fun e w'=>
   e=.returned (.int .i64 (leftN t m h))∧Below w.heap.size w w') ?_ t
 clear t;intro k o n s ns ks p ih B w nv kv m h hB hN hm0 hm1 hh;obtain⟨hs,hk⟩:=ndIn_mk.1 hN.out;obtain⟨ao,cap,rfl,hks⟩:=eA hk;obtain⟨aos,caps,rfl,hss⟩:=eR hs;clear hk hN hs;simp only [Nd.kind,Nd.op,Nd.num,Nd.str,Nd.pl];have IH:=aA ih;have KS:=aA hks;have SS:=aA hss;clear ih hks hss;by_cases h0:h=0
 ·have e0:((h:Int)==0)=true:=beq_iff_eq.2 (by omega);have H:=aA (show leftN (.mk k o n s ns ks p) m h=-1 by rw [leftN,if_pos (Or.inl h0)]);clear h0;go_enter Tryz.func25,Tryz.ntmps25;go_wp2_with fail;go_ret;exact⟨by rw [H.out];rfl,(Below.refl _ _).alloc (Nat.le_refl _) _⟩
 have e0:((h:Int)==0)=false:=beq_eq_false_iff_ne.2 (by omega);by_cases h6:600<s.size
 ·have H:=aA (show leftN (.mk k o n s ns ks p) m h=-1 by rw [leftN,if_pos (Or.inr (Or.inl h6))]);go_enter Tryz.func25,Tryz.ntmps25;go_wp2_with fail;go_ret;exact⟨by rw [H.out];rfl,(Below.refl _ _).alloc (Nat.le_refl _) _⟩
 by_cases hn6:60<ns.length
 ·have H:=aA (show leftN (.mk k o n s ns ks p) m h=-1 by rw [leftN,if_pos (Or.inr (Or.inr hn6))]);have d6:decide ((600:Int)<(s.size:Int))=false:=decide_eq_false (by omega);go_enter Tryz.func25,Tryz.ntmps25;go_wp2_with fail;go_ret;exact⟨by rw [H.out];rfl,(Below.refl _ _).alloc (Nat.le_refl _) _⟩
 have d6:decide ((600:Int)<(s.size:Int))=false:=decide_eq_false (by omega);have d7:decide ((60:Int)<(ns.length:Int))=false:=decide_eq_false (by omega);have HA:=aA (show leftN (.mk k o n s ns ks p) m h=if sH ns then -1 else mP ks (m - 1) (h - 1) by rw [leftN,if_neg (by omega)]);have hal:=(Below.refl w.heap.size w).alloc (Nat.le_refl _) (.cells #[.int .i64 k,.int .i64 o,.int .i64 n,.string s,.slice aos ns.length caps,.slice ao ks.length cap,.int .i64 p] 26);have AL:=aA hal;clear hal;go_enter Tryz.func25,Tryz.ntmps25;go_wp2_with fail;go_loop [7] (fun i=>∃ j:Nat,j≤ns.length∧i=.int .i64 j∧(∀ (q:Nat) (hq:q<ns.length),q<j→ns[q].size≤100)) (fun i=>ns.length - (intOf i).toNat)
 case atStart=>exact⟨0,Nat.zero_le _,rfl,fun q _ h=>absurd h (Nat.not_lt_zero _)⟩
 case round=>
  obtain⟨j,hj,rfl,hq⟩:=hrel;by_cases hjl:j<ns.length
  ·obtain⟨b,off,rfl,hbB,hat⟩:=SS.out.resolve_left (fun h=>by rw [h] at hjl;cases hjl);have c0:=bF (AL.out.mono hB) hbB (hat j hjl);have HY:=aA (fun hlt=>Nf (ns:=ns) (j:=j) hjl hlt);have HQ:=aA (fun (hle:ns[j].size≤100)=>show ∀ (q:Nat) (hq:q<ns.length),q<j+1→ns[q].size≤100 from fun q h1 h2=>by
    rcases Nat.lt_or_ge q j with h3 | h3
    ·exact hq q h1 h3
    ·obtain rfl:q=j:=by omega
     exact hle)
   clear hq hat;generalize ns[j]=y at *
   by_cases hy:100<y.size
   ·have H:=aA (show leftN (.mk k o n s ns ks p) m h=-1 by rw [HA.out,if_pos (HY.out hy)]);go_wp2_with fail;go_ret;exact⟨by rw [H.out];rfl,AL.out⟩
   ·have H:=aA (HQ.out (by omega));clear HQ HY;go_wp2_with fail;go_round
    case rel=>exact⟨j+1,by omega,by go_num,H.out⟩
    case measure=>simp [intOf];omega
  ·have hlong:=Pv (ns:=ns) (fun q hq'=>hq q hq' (by omega));have HB:=aA (show leftN (.mk k o n s ns ks p) m h=mP ks (m - 1) (h - 1) by rw [HA.out,if_neg (by rw [hlong];decide)]);clear HA hq hlong SS;go_wp2_with fail;go_loopw [1,8] (fun a i wr=>∃ (j:Nat) (c:Int),j≤ks.length∧i=.int .i64 j∧a=.int .i64 c∧-1≤c∧j+c≤1000∧leftN (.mk k o n s ns ks p) m h=mP (ks.drop j) c (h - 1)∧Below w.heap.size w wr∧kZ w.heap.size k o n s (.slice aos ns.length caps) (.slice ao ks.length cap) p wr) (fun _ i _=>ks.length - (intOf i).toNat)
   case atStart=>exact⟨0,m - 1,Nat.zero_le _,rfl,rfl,by omega,by omega,by simpa using HB.out,AL.out,cL w k o n s _ _ p⟩
   case round=>
    clear HB AL;obtain⟨j,c,hj,rfl,rfl,hc0,hc1,hl,hb,hx⟩:=hrel;have d5:=(aI hx).2.2.2.2.2.1;have BB:=aA hb;have HX:=aA hx;by_cases hjl:j<ks.length
    ·by_cases hcn:c<0
     ·have H:=aA (show leftN (.mk k o n s ns ks p) m h=c by rw [hl,Li _ _ _ hcn]);have dc:decide ((0:Int)≤c)=false:=decide_eq_false (by omega);clear hb hx hl;go_wp2_with fail;go_ret;exact⟨by rw [H.out];rfl,BB.out⟩
     ·obtain⟨b,off,rfl,hbB,hat⟩:=KS.out.resolve_left (fun h=>by rw [h] at hjl;cases hjl);obtain⟨nv',kv',hnode,hin⟩:=fZ hat j hjl;have hb':=hb.mono hB;obtain⟨c0,c1,c2,c3,c4,c5,c6⟩:=aH hnode hbB hb';have hin':=eQ hb' _ _ _ hin;have ih:=IH.out ks[j] (List.getElem_mem hjl);have hl2:=aA (show leftN (.mk k o n s ns ks p) m h=mP (ks.drop (j+1)) (leftN ks[j] c (h - 1)) (h - 1) by
       rw [hl,List.drop_eq_getElem_cons hjl,mP,if_neg hcn])
      have hbd:=wM ks[j] c (h - 1) (by omega);generalize ks[j]=x at *
      have N:=aA hin';have hsz:=hb.size;obtain⟨a1,q1,a2,q2,rfl,rfl⟩:=cC hin;have IH':=aA ih;have dc:decide ((0:Int)≤c)=true:=decide_eq_true (by omega);have eh:((h:Int) - 1)=((h - 1:Nat):Int):=by omega
      have EH:=aA eh;clear hin hin' hnode hat hb hb' ih KS IH hx hl eh;go_wp2_with fail;rw [EH.out];refine (IH'.out B _ _ _ c (h - 1) (by omega) (aA N.out) (by omega) (by omega) (by omega)).mono ?_;rintro e w1 ⟨rfl,b1⟩;have B1:=aA (BB.out.trans (b1.mono hsz));have X1:=aA (lX HX.out b1);clear b1 BB N HX d5;go_wp2_with fail;go_roundw
      case rel=>exact⟨j+1,_,by omega,by go_num,rfl,hbd.1,by omega,hl2.out,B1.out,X1.out⟩
      case measure=>simp [intOf];omega
    ·have H:=aA (show leftN (.mk k o n s ns ks p) m h=c by rw [hl,List.drop_of_length_le (by omega),mP]);clear hb hx hl;go_wp2_with fail;go_ret;exact⟨by rw [H.out];rfl,BB.out⟩
theorem uQ (t:Nd) (B:Nat) (w:World) (nv kv:Value) (hB:B≤w.heap.size) (hN:Hid (jS B w t nv kv)) :
  Calls Tryz.prog 14 #[.agg #[.int .i64 t.kind,.int .i64 t.op,.int .i64 t.num,.string t.str,nv,kv,.int .i64 t.pl],.int .i64 300] w fun e w'=>
   e=.returned (.bool (Pu t))∧Below w.heap.size w w':=by
 obtain⟨a1,q1,a2,q2,rfl,rfl⟩:=cC hN.out;have b0:=(Below.refl w.heap.size w).alloc (Nat.le_refl _) (.cells #[.int .i64 t.kind,.int .i64 t.op,.int .i64 t.num,.string t.str,.slice a1 t.names.length q1,.slice a2 t.kids.length q2,.int .i64 t.pl] 26);have B0:=aA b0;have N:=aA (eQ (b0.mono hB) _ _ _ hN.out);clear b0 hN;go_enter Tryz.func14,Tryz.ntmps14;go_wp2_with fail;refine (Jb t B _ _ _ 300 40 (by simp;omega) N (by omega) (by omega) (by omega)).mono ?_;rintro e w1 ⟨rfl,b1⟩;have B1:=aA (aG B0.out (by simp) b1);clear b1 B0 N;have H:=aA (show Pu t=decide (0≤leftN t 300 40) from rfl);generalize leftN t 300 40=q at *
 go_wp2_with fail;go_ret;exact⟨by rw [H.out];rfl,B1.out⟩
theorem Jj {α:Type} (P:α→Bool) (l:List α) (h:∀ (q:Nat) (hq:q<l.length),P l[q]=false):l.any P=false:=by
 rw [List.any_eq_false];intro x hx;obtain⟨q,hq,rfl⟩:=List.getElem_of_mem hx;simp [h q hq]
theorem Et {α:Type} (P:α→Bool) (l:List α) {q:Nat} (hq:q<l.length) (h:P l[q]=true):l.any P=true:=by
 rw [List.any_eq_true];exact⟨_,List.getElem_mem hq,h⟩
def RQ (P:Nd→Bool) (B:Nat) (cap:Value) (ks:List Nd) (w:World):Prop:=∀ x∈ks,∀ (w':World) (nv kv:Value),Below w.heap.size w w'→Hid (jS B w' x nv kv)→
  Calls Tryz.prog 59 #[.agg #[.int .i64 x.kind,.int .i64 x.op,.int .i64 x.num,.string x.str,nv,kv,.int .i64 x.pl],cap] w' fun e w''=>e=.returned (.bool (P x))∧Below w'.heap.size w' w''
theorem Pe (P:Nd→Bool) (B:Nat) (cap:Value) (w:World) (kv:Value) (ks:List Nd) (hB:B≤w.heap.size) (h1:Hid (dI B w kv ks)) (hc:ks.length≤1000000) (CL:Hid (RQ P B cap ks w)) :
  Calls Tryz.prog 84 #[kv,.func (.func 59) #[] #[cap]] w fun e w'=>(∃ r:Int,e=.returned (.int .i64 r)∧decide (0≤r)=ks.any P)∧Below w.heap.size w w':=by
 obtain⟨ao,cp,rfl,hks⟩:=eA h1.out;have K1:=aA hks;clear hks h1;go_enter Tryz.func84,Tryz.ntmps84;go_wp2_with fail;go_loopw [8] (fun i wr=>∃ j:Nat,j≤ks.length∧i=.int .i64 j∧(∀ (q:Nat) (hq:q<ks.length),q<j→P ks[q]=false)∧Below w.heap.size w wr) (fun i _=>ks.length - (intOf i).toNat)
 case atStart=>exact⟨0,Nat.zero_le _,rfl,fun q _ h=>absurd h (Nat.not_lt_zero _),Below.refl _ _⟩
 case round=>
  obtain⟨j,hj,rfl,hq,hb⟩:=hrel;have BB:=aA hb;by_cases hjl:j<ks.length
  ·obtain⟨b,off,rfl,hbB,hat⟩:=K1.out.resolve_left (fun h=>by rw [h] at hjl;cases hjl);obtain⟨nv1,kv1,hnode,hin⟩:=fZ hat j hjl;have hb':=hb.mono hB;obtain⟨c0,c1,c2,c3,c4,c5,c6⟩:=aH hnode hbB hb';have N1:=aA (eQ hb' _ _ _ hin);have cl:=aA (CL.out ks[j] (List.getElem_mem hjl) wr nv1 kv1 hb N1);have HY:=aA (fun h=>Et P ks hjl h);have HQ:=aA (fun (he:P ks[j]=false)=>show ∀ (q:Nat) (hq:q<ks.length),q<j+1→P ks[q]=false from fun q h1 h3=>by
    rcases Nat.lt_or_ge q j with h4 | h4
    ·exact hq q h1 h4
    ·obtain rfl:q=j:=by omega
     exact he)
   generalize ks[j]=x at *
   obtain⟨a1,q1,a2,q2,rfl,rfl⟩:=cC hin;clear hin hnode hat hb hb' K1 CL hq N1;go_wp2_with fail;refine cl.out.mono ?_;rintro e w1 ⟨rfl,b1⟩;have B1:=aA (aG BB.out (Nat.le_refl _) b1);clear b1 BB cl;generalize P x=sb at *
   cases sb
   ·have H:=aA (HQ.out rfl);clear HY HQ;go_wp2_with fail;go_roundw
    case rel=>exact⟨j+1,by omega,by go_num,H.out,B1.out⟩
    case measure=>simp [intOf];omega
   ·have H:=aA (HY.out rfl);clear HY HQ;go_wp2_with fail;go_ret;exact⟨⟨j,rfl,by rw [H.out];simp⟩,B1.out⟩
  ·have H:=aA (Jj P ks (fun q h1=>hq q h1 (by omega)));clear hq hb;go_wp2_with fail;go_ret;exact⟨⟨-1,rfl,by rw [H.out];rfl⟩,BB.out⟩
theorem Ga (P:Nd→Bool) (B:Nat) (cap:Value) (w:World) (kv:Value) (ks:List Nd) (hB:B≤w.heap.size) (h1:Hid (dI B w kv ks)) (hc:ks.length≤1000000) (CL:Hid (RQ P B cap ks w)) :
  Calls Tryz.prog 58 #[kv,.func (.func 59) #[] #[cap]] w fun e w'=>e=.returned (.bool (ks.any P))∧Below w.heap.size w w':=by
 go_enter Tryz.func58,Tryz.ntmps58;go_wp2_with fail;refine (Pe P B cap w kv ks hB h1 hc CL).mono ?_;rintro e w1 ⟨⟨r,rfl,hr⟩,b1⟩;have B1:=aA b1;have HR:=aA hr;clear b1 hr;go_wp2_with fail;go_ret;exact⟨by rw [← HR.out];rfl,B1.out⟩
def KN (P:Nd→Bool) (B:Nat) (cap:Value) (ks:List Nd) (w:World):Prop:=∀ x∈ks,∀ (w':World) (nv kv:Value),Below w.heap.size w w'→Hid (jS B w' x nv kv)→
  Calls Tryz.prog 119 #[.agg #[.int .i64 x.kind,.int .i64 x.op,.int .i64 x.num,.string x.str,nv,kv,.int .i64 x.pl],cap] w' fun e w''=>e=.returned (.bool (P x))∧Below w'.heap.size w' w''
theorem MM (P:Nd→Bool) (B:Nat) (cap:Value) (w:World) (kv:Value) (ks:List Nd) (hB:B≤w.heap.size) (h1:Hid (dI B w kv ks)) (hc:ks.length≤1000000) (CL:Hid (KN P B cap ks w)) :
  Calls Tryz.prog 84 #[kv,.func (.func 119) #[] #[cap]] w fun e w'=>(∃ r:Int,e=.returned (.int .i64 r)∧decide (0≤r)=ks.any P)∧Below w.heap.size w w':=by
 obtain⟨ao,cp,rfl,hks⟩:=eA h1.out;have K1:=aA hks;clear hks h1;go_enter Tryz.func84,Tryz.ntmps84;go_wp2_with fail;go_loopw [8] (fun i wr=>∃ j:Nat,j≤ks.length∧i=.int .i64 j∧(∀ (q:Nat) (hq:q<ks.length),q<j→P ks[q]=false)∧Below w.heap.size w wr) (fun i _=>ks.length - (intOf i).toNat)
 case atStart=>exact⟨0,Nat.zero_le _,rfl,fun q _ h=>absurd h (Nat.not_lt_zero _),Below.refl _ _⟩
 case round=>
  obtain⟨j,hj,rfl,hq,hb⟩:=hrel;have BB:=aA hb;by_cases hjl:j<ks.length
  ·obtain⟨b,off,rfl,hbB,hat⟩:=K1.out.resolve_left (fun h=>by rw [h] at hjl;cases hjl);obtain⟨nv1,kv1,hnode,hin⟩:=fZ hat j hjl;have hb':=hb.mono hB;obtain⟨c0,c1,c2,c3,c4,c5,c6⟩:=aH hnode hbB hb';have N1:=aA (eQ hb' _ _ _ hin);have cl:=aA (CL.out ks[j] (List.getElem_mem hjl) wr nv1 kv1 hb N1);have HY:=aA (fun h=>Et P ks hjl h);have HQ:=aA (fun (he:P ks[j]=false)=>show ∀ (q:Nat) (hq:q<ks.length),q<j+1→P ks[q]=false from fun q h1 h3=>by
    rcases Nat.lt_or_ge q j with h4 | h4
    ·exact hq q h1 h4
    ·obtain rfl:q=j:=by omega
     exact he)
   generalize ks[j]=x at *
   obtain⟨a1,q1,a2,q2,rfl,rfl⟩:=cC hin;clear hin hnode hat hb hb' K1 CL hq N1;go_wp2_with fail;refine cl.out.mono ?_;rintro e w1 ⟨rfl,b1⟩;have B1:=aA (aG BB.out (Nat.le_refl _) b1);clear b1 BB cl;generalize P x=sb at *
   cases sb
   ·have H:=aA (HQ.out rfl);clear HY HQ;go_wp2_with fail;go_roundw
    case rel=>exact⟨j+1,by omega,by go_num,H.out,B1.out⟩
    case measure=>simp [intOf];omega
   ·have H:=aA (HY.out rfl);clear HY HQ;go_wp2_with fail;go_ret;exact⟨⟨j,rfl,by rw [H.out];simp⟩,B1.out⟩
  ·have H:=aA (Jj P ks (fun q h1=>hq q h1 (by omega)));clear hq hb;go_wp2_with fail;go_ret;exact⟨⟨-1,rfl,by rw [H.out];rfl⟩,BB.out⟩
theorem xS (P:Nd→Bool) (B:Nat) (cap:Value) (w:World) (kv:Value) (ks:List Nd) (hB:B≤w.heap.size) (h1:Hid (dI B w kv ks)) (hc:ks.length≤1000000) (CL:Hid (KN P B cap ks w)) :
  Calls Tryz.prog 58 #[kv,.func (.func 119) #[] #[cap]] w fun e w'=>e=.returned (.bool (ks.any P))∧Below w.heap.size w w':=by
 go_enter Tryz.func58,Tryz.ntmps58;go_wp2_with fail;refine (MM P B cap w kv ks hB h1 hc CL).mono ?_;rintro e w1 ⟨⟨r,rfl,hr⟩,b1⟩;have B1:=aA b1;have HR:=aA hr;clear b1 hr;go_wp2_with fail;go_ret;exact⟨by rw [← HR.out];rfl,B1.out⟩
def KO (P:ByteArray→Bool) (cap:Value) (ks:List ByteArray) (w:World):Prop:=∀ x∈ks,∀ (w':World),Below w.heap.size w w'→
  Calls Tryz.prog 167 #[.string x,cap] w' fun e w''=>e=.returned (.bool (P x))∧Below w'.heap.size w' w''
theorem MN (P:ByteArray→Bool) (B:Nat) (cap:Value) (w:World) (kv:Value) (ks:List ByteArray) (hB:B≤w.heap.size) (h1:Hid (cE B kv ks w)) (hc:ks.length≤1000000) (CL:Hid (KO P cap ks w)) :
  Calls Tryz.prog 180 #[kv,.func (.func 167) #[] #[cap]] w fun e w'=>(∃ r:Int,e=.returned (.int .i64 r)∧decide (0≤r)=ks.any P)∧Below w.heap.size w w':=by
 obtain⟨ao,cp,rfl,hks⟩:=eR h1.out;have K1:=aA hks;clear hks h1;go_enter Tryz.func180,Tryz.ntmps180;go_wp2_with fail;go_loopw [8] (fun i wr=>∃ j:Nat,j≤ks.length∧i=.int .i64 j∧(∀ (q:Nat) (hq:q<ks.length),q<j→P ks[q]=false)∧Below w.heap.size w wr) (fun i _=>ks.length - (intOf i).toNat)
 case atStart=>exact⟨0,Nat.zero_le _,rfl,fun q _ h=>absurd h (Nat.not_lt_zero _),Below.refl _ _⟩
 case round=>
  obtain⟨j,hj,rfl,hq,hb⟩:=hrel;have BB:=aA hb;by_cases hjl:j<ks.length
  ·obtain⟨b,off,rfl,hbB,hat⟩:=K1.out.resolve_left (fun h=>by rw [h] at hjl;cases hjl);have c0:=bF (hb.mono hB) hbB (hat j hjl);have cl:=aA (CL.out ks[j] (List.getElem_mem hjl) wr hb);have HY:=aA (fun h=>Et P ks hjl h);have HQ:=aA (fun (he:P ks[j]=false)=>show ∀ (q:Nat) (hq:q<ks.length),q<j+1→P ks[q]=false from fun q h1 h3=>by
    rcases Nat.lt_or_ge q j with h4 | h4
    ·exact hq q h1 h4
    ·obtain rfl:q=j:=by omega
     exact he)
   generalize ks[j]=x at *
   clear hat hb K1 CL hq;go_wp2_with fail;refine cl.out.mono ?_;rintro e w1 ⟨rfl,b1⟩;have B1:=aA (aG BB.out (Nat.le_refl _) b1);clear b1 BB cl;generalize P x=sb at *
   cases sb
   ·have H:=aA (HQ.out rfl);clear HY HQ;go_wp2_with fail;go_roundw
    case rel=>exact⟨j+1,by omega,by go_num,H.out,B1.out⟩
    case measure=>simp [intOf];omega
   ·have H:=aA (HY.out rfl);clear HY HQ;go_wp2_with fail;go_ret;exact⟨⟨j,rfl,by rw [H.out];simp⟩,B1.out⟩
  ·have H:=aA (Jj P ks (fun q h1=>hq q h1 (by omega)));clear hq hb;go_wp2_with fail;go_ret;exact⟨⟨-1,rfl,by rw [H.out];rfl⟩,BB.out⟩
theorem xT (P:ByteArray→Bool) (B:Nat) (cap:Value) (w:World) (kv:Value) (ks:List ByteArray) (hB:B≤w.heap.size) (h1:Hid (cE B kv ks w)) (hc:ks.length≤1000000) (CL:Hid (KO P cap ks w)) :
  Calls Tryz.prog 166 #[kv,.func (.func 167) #[] #[cap]] w fun e w'=>e=.returned (.bool (ks.any P))∧Below w.heap.size w w':=by
 go_enter Tryz.func166,Tryz.ntmps166;go_wp2_with fail;refine (MN P B cap w kv ks hB h1 hc CL).mono ?_;rintro e w1 ⟨⟨r,rfl,hr⟩,b1⟩;have B1:=aA b1;have HR:=aA hr;clear b1 hr;go_wp2_with fail;go_ret;exact⟨by rw [← HR.out];rfl,B1.out⟩
theorem Pf {k o n:Int} {s:ByteArray} {ns:List ByteArray} {ks:List Nd} {p:Int} {m:Nat} (hm:m≠0):ks.any (fun x=>decide (m - 1<eZ x))=decide (m<eZ (.mk k o n s ns ks p)):=by
 have key:∀ ks:List Nd,ks.any (fun x=>decide (m - 1<eZ x))=decide (m - 1<gX ks):=by
  intro ks;induction ks with
  | nil=>simp [gX]
  | cons x r ih=>
   rw [List.any_cons,ih,gX,Bool.eq_iff_iff,Bool.or_eq_true,decide_eq_true_iff,decide_eq_true_iff,decide_eq_true_iff];omega
 rw [key,eZ,Bool.eq_iff_iff,decide_eq_true_iff,decide_eq_true_iff];omega
def Pg (x:Nd):Prop:=∀ (B:Nat) (w:World) (nv kv:Value) (m:Nat),B≤w.heap.size→Hid (jS B w x nv kv)→bM x≤1000000→m≤1000→
  Calls Tryz.prog 33 #[.agg #[.int .i64 x.kind,.int .i64 x.op,.int .i64 x.num,.string x.str,nv,kv,.int .i64 x.pl],.int .i64 m] w fun e w'=>
   e=.returned (.bool (decide (m<eZ x)))∧Below w.heap.size w w'
theorem Jk (x:Nd) (hx:Pg x) (B:Nat) (w:World) (nv kv:Value) (g m:Nat) (hB:B≤w.heap.size) (hN:Hid (jS B w x nv kv)) (hc:bM x≤1000000) (hm:m≤1000) (hm0:m≠0) (hg:w.cell? ⟨g,0,none⟩=some (.int .i64 m)) (hgw:g<w.heap.size) :
  Calls Tryz.prog 59 #[.agg #[.int .i64 x.kind,.int .i64 x.op,.int .i64 x.num,.string x.str,nv,kv,.int .i64 x.pl],.pointer (some ⟨g,0,none⟩)] w fun e w'=>
   e=.returned (.bool (decide (m - 1<eZ x)))∧Below w.heap.size w w':=by
 obtain⟨a1,q1,a2,q2,rfl,rfl⟩:=cC hN.out;have hal:=(Below.refl w.heap.size w).alloc (Nat.le_refl _) (.cells #[.int .i64 x.kind,.int .i64 x.op,.int .i64 x.num,.string x.str,.slice a1 x.names.length q1,.slice a2 x.kids.length q2,.int .i64 x.pl] 26);have AL:=aA hal;have N:=aA (eQ (hal.mono hB) _ _ _ hN.out);have HX:=aA hx;have EH:=aA (show ((m:Int) - 1)=((m - 1:Nat):Int) by omega);clear hal hN hx;go_enter Tryz.func59,Tryz.ntmps59;go_wp2_with fail;rw [EH.out];refine (HX.out B _ _ _ (m - 1) (by simp;omega) N hc (by omega)).mono ?_;rintro e w1 ⟨rfl,b1⟩;have B1:=aA (aG AL.out (by simp) b1);clear b1 AL N;go_wp2_with fail;go_ret;exact⟨rfl,B1.out⟩
theorem Eu (x:Nd):Pg x:=by
 refine Nd.ind ?_ x;clear x;intro k o n s ns ks p ih B w nv kv m hB hN hc hm;obtain⟨hs,hk⟩:=ndIn_mk.1 hN.out;obtain⟨a1,q1,a2,q2,rfl,rfl⟩:=cC hN.out;simp only [Nd.kind,Nd.op,Nd.num,Nd.str,Nd.pl,Nd.names,Nd.kids] at *
 simp only [bM] at hc;have hlen:=dZ ks;have hal:=pH w (.cells #[.int .i64 k,.int .i64 o,.int .i64 n,.string s,.slice a1 ns.length q1,.slice a2 ks.length q2,.int .i64 p] 26) (.cells #[.int .i64 m] 3);by_cases h0:m=0
 ·have e0:((m:Int)==0)=true:=beq_iff_eq.2 (by omega);have H:=aA (show decide (m<eZ (.mk k o n s ns ks p))=true by rw [decide_eq_true_iff,h0];exact KW _);have AL:=aA hal;clear h0 hal hs hk hN;go_enter Tryz.func33,Tryz.ntmps33;go_wp2_with fail;go_ret;exact⟨by rw [H.out];rfl,AL.out⟩
 ·have e0:((m:Int)==0)=false:=beq_eq_false_iff_ne.2 (by omega);have hmf:∀ (fn:Fn) (first cap:Array Value) (w:World),(Instr.makeFunc fn first cap).run Tryz.prog w=.ok (.func fn first cap) w:=fun _ _ _ _=>rfl
  have K:=aA (fQ (hal.mono hB) hk);have H:=aA (Pf (k:=k) (o:=o) (n:=n) (s:=s) (ns:=ns) (ks:=ks) (p:=p) h0);have AL:=aA hal;have CL:Hid (RQ (fun x=>decide (m - 1<eZ x)) B (.pointer (some ⟨w.heap.size+1,0,none⟩)) ks ((w.alloc (.cells #[.int .i64 k,.int .i64 o,.int .i64 n,.string s,.slice a1 ns.length q1,.slice a2 ks.length q2,.int .i64 p] 26)).alloc (.cells #[.int .i64 m] 3))):=by
   intro x hx w' nv' kv' hb hin;have hcm:=jM hx;have hz:=hb.size;simp only [World.size_alloc] at hz;refine Jk x (ih x hx) B w' nv' kv' (w.heap.size+1) m (by omega) hin (by omega) hm h0 ?_ (by omega);refine bF hb (by simp) ?_;simp
  clear hal hs hk hN h0 ih;go_enter Tryz.func33,Tryz.ntmps33;go_wp2_with fail;refine (Ga (fun x=>decide (m - 1<eZ x)) B _ _ _ ks (by simp;omega) K (by omega) CL).mono ?_;rintro e w1 ⟨rfl,b1⟩;have B1:=aA (aG AL.out (by simp) b1);clear b1 AL K CL;rw [H.out];go_wp2_with fail;go_ret;exact⟨rfl,B1.out⟩
end Go.Proofs.YtdnnmjhfidimcaaGreatDoor
