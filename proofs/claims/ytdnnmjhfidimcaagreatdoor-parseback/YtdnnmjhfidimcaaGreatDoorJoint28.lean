/- A token that is read may be. The document's signs. What follows of what Parse tells. The writer: what it holds, and what it writes at once. The writer's small functions. -/
import Derived.Test.YtdnnmjhfidimcaaGreatDoorJoint4
import Derived.Test.YtdnnmjhfidimcaaGreatDoorJoint9
import Derived.Test.YtdnnmjhfidimcaaGreatDoorKey
import Derived.Test.YtdnnmjhfidimcaaGreatDoorJoint27
import Derived.Test.YtdnnmjhfidimcaaGreatDoorJoint7
import Derived.Test.YtdnnmjhfidimcaaGreatDoorPsMay
import Derived.Test.YtdnnmjhfidimcaaGreatDoorBld
namespace Go.Proofs.YtdnnmjhfidimcaaGreatDoor
set_option maxHeartbeats 1600000
open Go.RowKit
set_option linter.unusedVariables false
theorem mT (l:List UInt8):0≤(dD l).1∧(dD l).1≤4611686018427387903:=by
 unfold dD;split
 ·exact⟨by decide,by decide⟩
 ·rename_i h;have hall:l.all jC=true:=by simp at h;simpa using h.2
  have:=vG l hall;unfold wF;split
  ·exact⟨by decide,by decide⟩
  ·exact this
theorem zQ:∀ (L:List (List UInt8)) (l:List UInt8),fB L l=[]∨fB L l∈L
 | [],_=>.inl rfl
 | x::L,l=>by
  unfold fB;split
  ·right;simp
  ·rcases zQ L l with h | h
   ·exact .inl h
   ·right;simp [h]
theorem CV {l:List UInt8} {k:Nat} (h:(cA l k).2.2=0):cS (cA l k).1=true∧(cA l k).1.kind≠6∧(cA l k).1.pl=k:=by
 match l with
 | []=>simp [cA] at h
 | b::r=>
  unfold cA at h ⊢;simp only at h ⊢;by_cases hl:aW b.toNat=true
  ·rw [if_pos hl] at h ⊢;unfold hD at h ⊢;by_cases h3:iW ((b::r).take (jH dS (b::r)))=true
   ·rw [if_pos h3];refine⟨?_,by simp,rfl⟩;simpa [cS] using h3
   ·rw [if_neg h3] at h ⊢;by_cases h4:nameB ((b::r).take (jH dS (b::r)))=true
    ·rw [if_pos h4];refine⟨?_,by simp,rfl⟩;simp [cS];exact⟨h4,by simpa using h3⟩
    ·rw [if_neg h4] at h;simp at h
  ·rw [if_neg hl] at h ⊢;by_cases hd:bA b.toNat=true
   ·rw [if_pos hd] at h ⊢;unfold iB at h ⊢;by_cases h3:(dD ((b::r).take (jH bA (b::r)))).2=0
    ·rw [if_pos h3];refine⟨?_,by simp,rfl⟩;have:=mT ((b::r).take (jH bA (b::r)));simp [cS];exact this
    ·rw [if_neg h3] at h;exact absurd h h3
   ·rw [if_neg hd] at h ⊢;by_cases h34:b.toNat=34
    ·rw [if_pos h34] at h ⊢;unfold jX at h ⊢;by_cases h3:(takeOut (b::r)).2.2=0
     ·rw [if_pos h3] at h ⊢;by_cases h4:256<(takeOut (b::r)).1.length
      ·rw [if_pos h4] at h;simp at h
      ·rw [if_neg h4];refine⟨?_,by simp,rfl⟩;have e:(⟨(takeOut (b::r)).1.toArray⟩:ByteArray).size=(takeOut (b::r)).1.length:=by rw [← cB]
       simp only [cS];simp [e];omega
     ·rw [if_neg h3] at h;exact absurd h h3
    ·rw [if_neg h34] at h ⊢;unfold kK at h ⊢;by_cases h3:signL (b::r)=[]
     ·rw [if_pos h3] at h;simp at h
     ·rw [if_neg h3];refine⟨?_,by simp,rfl⟩;rcases zQ sgnL (b::r) with h4 | h4
      ·exact absurd h4 h3
      ·simp [cS];exact h4
theorem Fq (s:ByteArray):∀ (f k:Nat) (acc:List Tok),(∀ t∈acc,cS t=true)→∀ t∈(jD s f k acc).1,cS t=true
 | 0,_,_,_=>by simp [jD]
 | f+1,k,acc,ha=>by
  rw [jD];split
  ·intro t ht;rcases List.mem_append.1 ht with h | h
   ·exact ha t h
   ·rw [List.mem_singleton.1 h];rfl
  ·split
   ·simp
   ·rename_i he;split
    ·simp
    ·refine Fq s f _ _ fun t ht=>?_
     rcases List.mem_append.1 ht with h | h
     ·exact ha t h
     ·rw [List.mem_singleton.1 h];exact (CV (by simpa using he)).1
theorem yL (s:ByteArray):∀ t∈(tokOut s).1,cS t=true:=by
 unfold tokOut;split
 ·simp
 ·exact Fq s _ _ _ (by simp)
theorem Fv (w:World) :
  Calls Tryz.prog 83 #[] w fun e w'=>e=.returned (.slice (some ⟨w.heap.size,0,none⟩) 25 25)∧w.alloc (.cells (pB sgnL) 9)=w':=by
 go_enter Tryz.func83,Tryz.ntmps83;go_wp2;go_ret;exact⟨rfl,rfl⟩
theorem Dm (g:Nd→Nd):∀ ks:List Nd,(∀ x∈ks,eZ (g x)=eZ x)→gX (ks.map g)=gX ks
 | [],_=>rfl
 | x::r,h=>by
  rw [List.map_cons,gX,gX,h x (by simp),Dm g r (fun y hy=>h y (by simp [hy]))]
theorem OR (t:Nd):eZ (zN t)=eZ t:=by
 refine Nd.ind (P:=fun t=>eZ (zN t)=eZ t) ?_ t;intro k o n s ns ks p ih;rw [gA,eZ,eZ,Dm zN ks ih]
theorem IY {t:Nd} (h:checkN t=0) {s:ByteArray} (hs:s.data.toList=nQ t) (hl:s.size≤2000) :
  (∃ p,tokOut s=([],p,5))∨∃ f0,∀ f,f0≤f→∃ m,lK f true s=(m,0,0)∧sameN m t=true:=by
 have hh:eZ t≤12:=by
  rcases Nat.lt_or_ge 12 (eZ t) with h1 | h1
  ·unfold checkN at h;rw [if_pos h1] at h;cases h
  ·exact h1
 have hr:rightN t 3=true:=by
  unfold checkN at h;rw [if_neg (by omega)] at h;split at h
  ·assumption
  ·cases h
 obtain⟨_,h2,h3⟩:=OQ (tQ t) s (by rw [hs,IO]) (IQ hr);by_cases hn:600<(aK (tQ t)).length
 ·exact .inl (h2 hl hn)
 ·right;obtain⟨out,e1,e2⟩:=h3 hl (by omega);obtain⟨f0,hb⟩:=IX hr;refine⟨f0,fun f hf=>?_⟩;have hz:out.map zt=(aK (tQ t)++[BM]).map zt:=FU (by rw [e2,List.map_append];rfl);have h4:=Kj f out;have h5:=hb f hf;simp only at h5;rw [hz,← Kj,h5] at h4;cases hp:rJ f true out with
  | bad l=>rw [hp] at h4;cases h4
  | ok m b l=>
   rw [hp] at h4;injection h4 with e3 _ _;rw [zz] at e3;refine⟨m,?_,(OP m t).2 e3⟩;have hm:eZ m=eZ t:=by rw [← OR m,e3,OR]
   unfold lK;rw [e1];simp only [hp];rw [if_neg (by simp),if_neg (by omega)]
theorem MC {f:Nat} {s:ByteArray} (h:(lK f true s).2.2=0):checkN (lK f true s).1=0∧bM (lK f true s).1≤(tokOut s).1.length+1:=by
 have hg:GT (tokOut s).1:=yL s;have hm:=(Ak f).stmts [] (tokOut s).1 (tokOut s).1 hg ⟨by simp,by simp,[],rfl,by simp [bW]⟩;unfold lK at h ⊢;split
 ·rename_i he;rw [if_pos he] at h;exact absurd h he
 ·rename_i he;rw [if_neg he] at h;cases hp:rJ f true (tokOut s).1 with
  | bad l=>simp [hp] at h
  | ok t b l=>
   simp only [hp] at h ⊢;split
   ·rename_i hh;rw [if_pos hh] at h;cases h
   ·rename_i hh;unfold rJ at hp;simp only [if_true] at hp;cases hq:eK f [] (tokOut s).1 with
    | bad l1=>rw [hq] at hp;cases hp
    | ok ns ts l1=>
     rw [hq] at hp hm;simp only [PL.bind,PR.bind] at hp;split at hp
     ·injection hp with e1 _ _;obtain⟨q1,q2,pre,q3,q4⟩:=hm;have hrt:Rt 3 (iH 29 ts):=.block ts 0 q2 q1;have hr:=Nc hrt;rw [e1] at hr;refine⟨?_,?_⟩
      ·unfold checkN;rw [if_neg hh,if_pos hr]
      ·rw [← e1];unfold iH;rw [gG,q3];simp;omega
     ·cases hp
theorem Af:DL 53 2:=⟨by kernel_rfl,by decide⟩
def Wr (B b:Nat) (l:List UInt8) (w:World):Prop:=Has 53 [] B b l w∧B≤w.heap.size
theorem Kn {B b:Nat} {l l':List UInt8} {a c:World} (h:Wr B b l a) (h':Has 53 [] B b l' c) (q:Near B b a c):Wr B b l' c:=⟨h',Nat.le_trans h.2 q.below.size⟩
theorem fP {B b:Nat} {l:List UInt8} {w:World} (h:Wr B b l w):b<w.heap.size:=h.1.lt
theorem iZ {B b:Nat} {l:List UInt8} {w:World} (h:Wr B b l w):Wr B b l w.drew:=⟨h.1.drew,h.2⟩
theorem bZ {B b:Nat} {l:List UInt8} {a c:World} (h:Wr B b l a) (q:Below a.heap.size a c):Wr B b l c:=by
 obtain⟨⟨p,v,h1⟩,h2⟩:=h;have hb:b<a.heap.size:=fP ⟨⟨p,v,h1⟩,h2⟩;refine⟨⟨p,v,h1.low,h1.seen,(q.block b hb).trans h1.blk,?_,h1.ne,h1.nil⟩,Nat.le_trans h2 q.size⟩;refine⟨h1.own.1,?_⟩;rcases h1.own.2 with h3 | ⟨g,cap,cur,hv,hg,hh,r⟩
 ·exact .inl h3
 ·have hgl:g<a.heap.size:=tE hh;exact .inr ⟨g,cap,cur,hv,hg,(q.block g hgl).trans hh,r⟩
theorem OU {B b:Nat} {l:List UInt8} {w:World} (h:Wr B b l w):∃ ao cap,w.cell? ⟨b,1,none⟩=some (.slice ao l.length cap):=by
 obtain⟨⟨p,v,h1⟩,_⟩:=h;have c1:w.cell? ⟨b,1,none⟩=some v:=by rw [Lib.cell_of_heap h1.blk];rfl
 rcases h1.own.2 with ⟨hv,hz⟩ | ⟨g,cap,cur,hv,_⟩
 ·exact⟨none,0,by rw [c1,hv,hz]⟩
 ·exact⟨_,cap,by rw [c1,hv]⟩
theorem eN {B b:Nat} {l:List UInt8} {w:World} (h:Hid (Wr B b l w)) (hl:l.length≤1000000000) :
  Calls Tryz.prog 27 #[.pointer (some ⟨b,0,none⟩)] w fun e w'=>e=.returned (.bool (decide (2000<l.length)))∧w=w':=by
 obtain⟨ao,cap,c1⟩:=OU h.out;clear h;by_cases h2:2000<l.length
 ·have H:=aA (show decide (2000<l.length)=true from decide_eq_true h2);have d:decide ((2000:Int)<(l.length:Int))=true:=decide_eq_true (by omega);go_enter Tryz.func27,Tryz.ntmps27;go_wp2;go_ret;exact⟨by rw [H.out];rfl,rfl⟩
 ·have H:=aA (show decide (2000<l.length)=false from decide_eq_false h2);have d:decide ((2000:Int)<(l.length:Int))=false:=decide_eq_false (by omega);go_enter Tryz.func27,Tryz.ntmps27;go_wp2;go_ret;exact⟨by rw [H.out];rfl,rfl⟩
def jB (B b:Nat) (l t:List UInt8) (w:World) (e:Ending) (w':World):Prop:=e=.returned (.tuple #[])∧∃ l',Wr B b l' w'∧WroteT l t l'∧Near B b w w'
theorem tZ {B b:Nat} {l:List UInt8} {w:World} (c:UInt8) (n:Int) (hn:n=(c.toNat:Int)) (h:Hid (Wr B b l w)) (hl:l.length≤1000000000) :
  Calls Tryz.prog 46 #[.pointer (some ⟨b,0,none⟩),.int .u8 n] w fun e w'=>e=.returned .nilIface∧Wr B b (l++[c]) w'∧Near B b w w':=
 (tF _ _ B b l c n hn w h.out.1 Af (by omega) h.out.2).mono fun _ _ ⟨h1,h2,h3⟩=>⟨h1,Kn h.out h2 h3,h3⟩
theorem Jd {B b:Nat} {l:List UInt8} {w:World} (s:ByteArray) (hs0:l++s.data.toList≠[]) (h:Hid (Wr B b l w)) (hl:l.length≤1000000000) (hs:s.size≤1000000000) :
  Calls Tryz.prog 74 #[.pointer (some ⟨b,0,none⟩),.string s] w fun e w'=>e=.returned (.tuple #[.int .i64 s.size,.nilIface])∧Wr B b (l++s.data.toList) w'∧Near B b w w':=
 (qY _ _ B b l s hs0 w h.out.1 Af (by omega) h.out.2).mono fun _ _ ⟨h1,h2,h3⟩=>⟨h1,Kn h.out h2 h3,h3⟩
theorem aM {B b g:Nat} {k o n:Int} {s:ByteArray} {nv kv:Value} {p:Int} {a c:World} (h:kZ g k o n s nv kv p a) (hg:g≠b) (q:Near B b a c):kZ g k o n s nv kv p c:=by
 refine (q.rest g (yB h) hg ?_).trans h;intro cur fz e;rw [h] at e;injection e with e;injection e with _ e _;exact absurd e (by decide)
theorem MF {B b:Nat} {a c:World} (h:Near B b a c):Near B b a c.drew:=⟨h.below.drew,h.rest⟩
def dY (x:Nd):Prop:=∀ (B b:Nat) (l:List UInt8) (w:World) (nv kv:Value),Hid (Wr B b l w)→Hid (Ok B w)→Hid (jS B w x nv kv)→rightN x 1=true→dL x=true→bM x≤1000000→l.length+(textN x).e.length≤100000000→
  Calls Tryz.prog 115 #[.pointer (some ⟨b,0,none⟩),.agg #[.int .i64 x.kind,.int .i64 x.op,.int .i64 x.num,.string x.str,nv,kv,.int .i64 x.pl]] w (jB B b l (textN x).e w)
def nD (x:Nd):Prop:=∀ (B b:Nat) (l:List UInt8) (w:World) (nv kv:Value),Hid (Wr B b l w)→Hid (Ok B w)→Hid (jS B w x nv kv)→rightN x 2=true→dL x=true→bM x≤1000000→l.length+(textN x).s.length≤100000000→
  Calls Tryz.prog 47 #[.pointer (some ⟨b,0,none⟩),.agg #[.int .i64 x.kind,.int .i64 x.op,.int .i64 x.num,.string x.str,nv,kv,.int .i64 x.pl]] w (jB B b l (textN x).s w)
def oA (B:Nat) (x:Nd) (nv kv:Value) (r:Nat) (w:World):Prop:=jS B w x nv kv∧rightN x r=true∧dL x=true∧bM x≤1000000
theorem aE {B b:Nat} {x:Nd} {nv kv:Value} {r:Nat} {a c:World} (h:oA B x nv kv r a) (q:Near B b a c):oA B x nv kv r c:=⟨eQ q.below _ _ _ h.1,h.2⟩
theorem Je (x:Nd):(textN x).rank=rankT x.kind x.op:=by cases x;rw [mX];rfl
theorem Jf (x:Nd):(textN x).kind=x.kind:=by cases x;rw [mX];rfl
theorem OV (x:Tx) (r:Int):x.e.length≤(cG x r).length:=by unfold cG;split<;>simp;omega
theorem bQ {B b:Nat} {l t u l':List UInt8} {w w':World} (h1:Wr B b l' w') (h2:WroteT l t l') (e:t=u) (h3:Near B b w w'):jB B b l u w (.returned (.tuple #[])) w':=⟨rfl,l',h1,h2.of e,h3⟩
theorem aN {l t l':List UInt8} (h:WroteT l t l'):l'.length≤l.length+t.length:=h.1
theorem eO {B b:Nat} {l:List UInt8} {w:World} (c:UInt8) (n:Int) (hn:n=(c.toNat:Int)) (h:Hid (Wr B b l w)) (hl:l.length≤1000000000) :
  Calls Tryz.prog 46 #[.pointer (some ⟨b,0,none⟩),.int .u8 n] w fun e w'=>e=.returned .nilIface∧∃ l',Wr B b l' w'∧WroteT l [c] l'∧Near B b w w'∧l'≠[]:=
 (tZ c n hn h hl).mono fun _ _ ⟨h1,h2,h3⟩=>⟨h1,_,h2,WroteT.all _ _,h3,by simp⟩
theorem dH {B b:Nat} {l:List UInt8} {w:World} (s:ByteArray) (hs0:l++s.data.toList≠[]) (h:Hid (Wr B b l w)) (hl:l.length≤1000000000) (hs:s.size≤1000000000) :
  Calls Tryz.prog 74 #[.pointer (some ⟨b,0,none⟩),.string s] w fun e w'=>e=.returned (.tuple #[.int .i64 s.size,.nilIface])∧∃ l',Wr B b l' w'∧WroteT l s.data.toList l'∧Near B b w w'∧l'≠[]:=
 (Jd s hs0 h hl hs).mono fun _ _ ⟨h1,h2,h3⟩=>⟨h1,_,h2,WroteT.all _ _,h3,hs0⟩
theorem jW (x:Nd) (hx:dY x) (r:Int) (hr0:0≤r) (hr1:r≤1000) (B b:Nat) (l:List UInt8) (w:World) (nv kv:Value) (W:Hid (Wr B b l w)) (O:Hid (Ok B w)) (F:Hid (oA B x nv kv 1 w)) (hl:l.length+(cG (textN x) r).length≤100000000) :
  Calls Tryz.prog 149 #[.pointer (some ⟨b,0,none⟩),.agg #[.int .i64 x.kind,.int .i64 x.op,.int .i64 x.num,.string x.str,nv,kv,.int .i64 x.pl],.int .i64 r] w (jB B b l (cG (textN x) r) w):=by
 obtain⟨a1,q1,a2,q2,rfl,rfl⟩:=cC F.out.1;have hal:=bG w (.cells #[.int .i64 x.kind,.int .i64 x.op,.int .i64 x.num,.string x.str,.slice a1 x.names.length q1,.slice a2 x.kids.length q2,.int .i64 x.pl] 26);have hlt:=fP W.out;have hX0:=cL w x.kind x.op x.num x.str (.slice a1 x.names.length q1) (.slice a2 x.kids.length q2) x.pl;have hW0:=bZ W.out hal;have N0:=aA (show Near B b w _ from Near.ofBelow hal O.out.1);have hle:=OV (textN x) r;have HR:=aA (Je x);have HX:=aA hx;have X0:=aA hX0;have W0:=aA hW0;have O0:=aA (aR O.out N0.out.below);have F0:=aA (aE F.out N0.out);clear hal hX0 hW0 hx F O W;go_enter Tryz.func149,Tryz.ntmps149;go_wp2_with fail;refine (BQ _ _ _ _ _ _ _ _ _ _ _ _).mono ?_;rintro e w1 ⟨rfl,b1⟩;have n1:Near B b _ w1:=Near.ofBelow b1 O0.out.1;have N1:=aA (N0.out.trans n1);have W1:=aA (bZ W0.out b1);have O1:=aA (aR O0.out n1.below);have F1:=aA (aE F0.out n1);have hx1:=lX X0.out b1;obtain⟨c0,c1,c2,c3,c4,c5,c6⟩:=aI hx1;have X1:=aA hx1;clear b1 n1 N0 W0 O0 F0 hx1 X0;rw [← HR.out];by_cases hq:r≤(textN x).rank
 ·have HT:=aA (show cG (textN x) r=(textN x).e by unfold cG;rw [if_pos hq]);go_wp2_with fail;refine (HX.out B b l _ _ _ W1 O1 F1.out.1 F1.out.2.1 F1.out.2.2.1 F1.out.2.2.2 (by omega)).mono ?_;rintro e w2 ⟨rfl,l2,W2,hw2,n2⟩;have D:=aA (bQ W2 hw2 HT.out.symm (N1.out.trans n2));clear W2 hw2 n2;go_wp2_with fail;go_end0
  exact D.out
 ·have HT:=aA (show cG (textN x) r=[40]++((textN x).e++[41]) by unfold cG;rw [if_neg hq];rfl);have hll:l.length+(textN x).e.length+2≤100000000:=by
   rw [HT.out] at hl;simp at hl;omega
  go_wp2_with fail;refine (tZ 40 _ rfl W1 (by omega)).mono ?_;rintro e w2 ⟨rfl,hW2,n2⟩;have hx2:=aM X1.out (by omega) n2;obtain⟨d0,d1,d2,d3,d4,d5,d6⟩:=aI hx2;have N2:=aA (N1.out.trans n2);have W2:=aA hW2;have O2:=aA (aR O1.out n2.below);have F2:=aA (aE F1.out n2);clear n2 N1 W1 O1 F1 hx2 X1 hW2;go_wp2_with fail;refine (HX.out B b _ _ _ _ W2 O2 F2.out.1 F2.out.2.1 F2.out.2.2.1 F2.out.2.2.2 (by simp;omega)).mono ?_;rintro e w3 ⟨rfl,l3,hW3,hw3,n3⟩;have N3:=aA (N2.out.trans n3);have W3:=aA hW3;have hl3:=aN hw3;have R3:=aA ((WroteT.all l [40]).trans hw3);clear n3 N2 W2 O2 F2 hW3 hw3;simp only [List.length_append,List.length_cons,List.length_nil] at hl3;go_wp2_with fail;refine (tZ 41 _ rfl W3 (by omega)).mono ?_;rintro e w4 ⟨rfl,hW4,n4⟩;have D:=aA (bQ hW4 (R3.out.trans (WroteT.all _ [41])) (show [40]++(textN x).e++[41]=cG (textN x) r by rw [HT.out];simp) (N3.out.trans n4));clear hW4 n4;go_wp2_with fail;go_end0
  exact D.out
theorem oB (x:Nd) (hxx:dY x) (xa1:Option Addr) (xq1:Nat) (xa2:Option Addr) (xq2:Nat) (B b:Nat) (l:List UInt8) (w:World) (W:Hid (Wr B b l w)) (O:Hid (Ok B w)) (Fx:Hid (oA B x (.slice xa1 x.names.length xq1) (.slice xa2 x.kids.length xq2) 1 w)) (hl:l.length+(dC (textN x)).length≤100000000) :
  Calls Tryz.prog 116 #[.pointer (some ⟨b,0,none⟩),.agg #[.int .i64 x.kind,.int .i64 x.op,.int .i64 x.num,.string x.str,.slice xa1 x.names.length xq1,.slice xa2 x.kids.length xq2,.int .i64 x.pl]] w (jB B b l (dC (textN x)) w):=by
 have hlt:=fP W.out;have hal:=bG w (.cells #[.int .i64 x.kind,.int .i64 x.op,.int .i64 x.num,.string x.str,.slice xa1 x.names.length xq1,.slice xa2 x.kids.length xq2,.int .i64 x.pl] 26);have N0:=aA (show Near B b w _ from Near.ofBelow hal O.out.1);have W0:=aA (bZ W.out hal);have O0:=aA (aR O.out N0.out.below);have Fx0:=aA (aE Fx.out N0.out);have HXx:=aA hxx;have Xx0:=aA (cL w x.kind x.op x.num x.str (.slice xa1 x.names.length xq1) (.slice xa2 x.kids.length xq2) x.pl);have HT:=aA (show dC (textN x)=[32,61,32]++(textN x).e by rfl);rw [HT.out] at hl;simp only [List.length_append,List.length_cons,List.length_nil] at hl;clear hal W O Fx hxx;go_enter Tryz.func116,Tryz.ntmps116;go_wp2_with fail;refine (dH ⟨#[32,61,32]⟩ (by simp) W0 (by omega) (by decide)).mono ?_;rintro e w1 ⟨rfl,l1,hW,hw,nn,ne1⟩;have N1:=aA (N0.out.trans nn);have W1:=aA hW;have O1:=aA (aR O0.out nn.below);have Fx1:=aA (aE Fx0.out nn);have Xx1:=aA (aM Xx0.out (by omega) nn);clear W0 N0 O0 Fx0 Xx0 nn hW;obtain⟨cXx_1_0,cXx_1_1,cXx_1_2,cXx_1_3,cXx_1_4,cXx_1_5,cXx_1_6⟩:=aI Xx1.out;have hlen1:=aN hw;simp only [List.length_cons,List.length_nil] at hlen1;have R1:=aA hw;clear hw;go_wp2_with fail;refine (HXx.out B b _ _ _ _ W1 O1 (aA Fx1.out.1) Fx1.out.2.1 Fx1.out.2.2.1 Fx1.out.2.2.2 (by omega)).mono ?_;rintro e w2 ⟨rfl,l2,hW,hw,nn⟩;have N2:=aA (N1.out.trans nn);have W2:=aA hW;have O2:=aA (aR O1.out nn.below);have Fx2:=aA (aE Fx1.out nn);have Xx2:=aA (aM Xx1.out (by omega) nn);clear W1 N1 O1 Fx1 Xx1 nn hW cXx_1_0 cXx_1_1 cXx_1_2 cXx_1_3 cXx_1_4 cXx_1_5 cXx_1_6;obtain⟨cXx_2_0,cXx_2_1,cXx_2_2,cXx_2_3,cXx_2_4,cXx_2_5,cXx_2_6⟩:=aI Xx2.out;have hlen2:=aN hw;have R2:=aA (R1.out.trans hw);clear hw R1;have D:=aA (bQ W2.out R2.out (show ([32,61,32]++(textN x).e)=dC (textN x) by rw [HT.out];first | done | simp only [List.append_assoc,List.cons_append,List.nil_append]) N2.out);clear W2 N2 O2 R2 Fx2 Xx2 cXx_2_0 cXx_2_1 cXx_2_2 cXx_2_3 cXx_2_4 cXx_2_5 cXx_2_6;go_wp2_with fail;go_end0
 exact D.out
theorem uR (x:Nd) (hxx:dY x) (xa1:Option Addr) (xq1:Nat) (xa2:Option Addr) (xq2:Nat) (s:ByteArray) (hs0:s.data.toList≠[]) (hs:s.size≤1000000) (B b:Nat) (l:List UInt8) (w:World) (W:Hid (Wr B b l w)) (O:Hid (Ok B w)) (Fx:Hid (oA B x (.slice xa1 x.names.length xq1) (.slice xa2 x.kids.length xq2) 1 w)) (hl:l.length+(lQ (textN x) s).length≤100000000) :
  Calls Tryz.prog 117 #[.pointer (some ⟨b,0,none⟩),.agg #[.int .i64 x.kind,.int .i64 x.op,.int .i64 x.num,.string x.str,.slice xa1 x.names.length xq1,.slice xa2 x.kids.length xq2,.int .i64 x.pl],.string s] w (jB B b l (lQ (textN x) s) w):=by
 have hlt:=fP W.out;have hal:=bG w (.cells #[.int .i64 x.kind,.int .i64 x.op,.int .i64 x.num,.string x.str,.slice xa1 x.names.length xq1,.slice xa2 x.kids.length xq2,.int .i64 x.pl] 26);have N0:=aA (show Near B b w _ from Near.ofBelow hal O.out.1);have W0:=aA (bZ W.out hal);have O0:=aA (aR O.out N0.out.below);have Fx0:=aA (aE Fx.out N0.out);have HXx:=aA hxx;have Xx0:=aA (cL w x.kind x.op x.num x.str (.slice xa1 x.names.length xq1) (.slice xa2 x.kids.length xq2) x.pl);have HT:=aA (show lQ (textN x) s=cG (textN x) 8++([46]++s.data.toList) by rfl);rw [HT.out] at hl;simp only [List.length_append,List.length_cons,List.length_nil] at hl;clear hal W O Fx hxx;go_enter Tryz.func117,Tryz.ntmps117;go_wp2_with fail;refine (jW x HXx.out 8 (by omega) (by omega) B b _ _ _ _ W0 O0 Fx0 (by omega)).mono ?_;rintro e w1 ⟨rfl,l1,hW,hw,nn⟩;have N1:=aA (N0.out.trans nn);have W1:=aA hW;have O1:=aA (aR O0.out nn.below);have Fx1:=aA (aE Fx0.out nn);have Xx1:=aA (aM Xx0.out (by omega) nn);clear W0 N0 O0 Fx0 Xx0 nn hW;obtain⟨cXx_1_0,cXx_1_1,cXx_1_2,cXx_1_3,cXx_1_4,cXx_1_5,cXx_1_6⟩:=aI Xx1.out;have hlen1:=aN hw;have R1:=aA hw;clear hw;go_wp2_with fail;refine (eO 46 _ rfl W1 (by omega)).mono ?_;rintro e w2 ⟨rfl,l2,hW,hw,nn,ne2⟩;have N2:=aA (N1.out.trans nn);have W2:=aA hW;have O2:=aA (aR O1.out nn.below);have Fx2:=aA (aE Fx1.out nn);have Xx2:=aA (aM Xx1.out (by omega) nn);clear W1 N1 O1 Fx1 Xx1 nn hW cXx_1_0 cXx_1_1 cXx_1_2 cXx_1_3 cXx_1_4 cXx_1_5 cXx_1_6;obtain⟨cXx_2_0,cXx_2_1,cXx_2_2,cXx_2_3,cXx_2_4,cXx_2_5,cXx_2_6⟩:=aI Xx2.out;have hlen2:=aN hw;simp only [List.length_cons,List.length_nil] at hlen2;have R2:=aA (R1.out.trans hw);clear hw R1;go_wp2_with fail;refine (dH s (by simp [hs0]) W2 (by omega) (by omega)).mono ?_;rintro e w3 ⟨rfl,l3,hW,hw,nn,ne3⟩;have N3:=aA (N2.out.trans nn);have W3:=aA hW;have O3:=aA (aR O2.out nn.below);have Fx3:=aA (aE Fx2.out nn);have Xx3:=aA (aM Xx2.out (by omega) nn);clear W2 N2 O2 Fx2 Xx2 nn hW cXx_2_0 cXx_2_1 cXx_2_2 cXx_2_3 cXx_2_4 cXx_2_5 cXx_2_6;obtain⟨cXx_3_0,cXx_3_1,cXx_3_2,cXx_3_3,cXx_3_4,cXx_3_5,cXx_3_6⟩:=aI Xx3.out;have hlen3:=aN hw;have R3:=aA (R2.out.trans hw);clear hw R2;have D:=aA (bQ W3.out R3.out (show ((cG (textN x) 8++[46])++s.data.toList)=lQ (textN x) s by rw [HT.out];first | done | simp only [List.append_assoc,List.cons_append,List.nil_append]) N3.out);clear W3 N3 O3 R3 Fx3 Xx3 cXx_3_0 cXx_3_1 cXx_3_2 cXx_3_3 cXx_3_4 cXx_3_5 cXx_3_6;go_wp2_with fail;go_end0
 exact D.out
theorem uA (x:Nd) (hxx:dY x) (xa1:Option Addr) (xq1:Nat) (xa2:Option Addr) (xq2:Nat) (y:Nd) (hxy:dY y) (ya1:Option Addr) (yq1:Nat) (ya2:Option Addr) (yq2:Nat) (B b:Nat) (l:List UInt8) (w:World) (W:Hid (Wr B b l w)) (O:Hid (Ok B w)) (Fx:Hid (oA B x (.slice xa1 x.names.length xq1) (.slice xa2 x.kids.length xq2) 1 w)) (Fy:Hid (oA B y (.slice ya1 y.names.length yq1) (.slice ya2 y.kids.length yq2) 1 w)) (hl:l.length+(hM (textN x) (textN y)).length≤100000000) :
  Calls Tryz.prog 118 #[.pointer (some ⟨b,0,none⟩),.agg #[.int .i64 x.kind,.int .i64 x.op,.int .i64 x.num,.string x.str,.slice xa1 x.names.length xq1,.slice xa2 x.kids.length xq2,.int .i64 x.pl],.agg #[.int .i64 y.kind,.int .i64 y.op,.int .i64 y.num,.string y.str,.slice ya1 y.names.length yq1,.slice ya2 y.kids.length yq2,.int .i64 y.pl]] w (jB B b l (hM (textN x) (textN y)) w):=by
 have hlt:=fP W.out;have hal:=pH w (.cells #[.int .i64 x.kind,.int .i64 x.op,.int .i64 x.num,.string x.str,.slice xa1 x.names.length xq1,.slice xa2 x.kids.length xq2,.int .i64 x.pl] 26) (.cells #[.int .i64 y.kind,.int .i64 y.op,.int .i64 y.num,.string y.str,.slice ya1 y.names.length yq1,.slice ya2 y.kids.length yq2,.int .i64 y.pl] 26);have N0:=aA (show Near B b w _ from Near.ofBelow hal O.out.1);have W0:=aA (bZ W.out hal);have O0:=aA (aR O.out N0.out.below);have Fx0:=aA (aE Fx.out N0.out);have HXx:=aA hxx;have Fy0:=aA (aE Fy.out N0.out);have HXy:=aA hxy;have hbx:=Gv w x.kind x.op x.num x.str (.slice xa1 x.names.length xq1) (.slice xa2 x.kids.length xq2) x.pl y.kind y.op y.num y.str (.slice ya1 y.names.length yq1) (.slice ya2 y.kids.length yq2) y.pl;have Xx0:=aA hbx.1;have Xy0:=aA hbx.2;clear hbx;have HT:=aA (show hM (textN x) (textN y)=cG (textN x) 8++([91]++((textN y).e++[93])) by rfl);rw [HT.out] at hl;simp only [List.length_append,List.length_cons,List.length_nil] at hl;clear hal W O Fx hxx Fy hxy;go_enter Tryz.func118,Tryz.ntmps118;go_wp2_with fail;refine (jW x HXx.out 8 (by omega) (by omega) B b _ _ _ _ W0 O0 Fx0 (by omega)).mono ?_;rintro e w1 ⟨rfl,l1,hW,hw,nn⟩;have N1:=aA (N0.out.trans nn);have W1:=aA hW;have O1:=aA (aR O0.out nn.below);have Fx1:=aA (aE Fx0.out nn);have Fy1:=aA (aE Fy0.out nn);have Xx1:=aA (aM Xx0.out (by omega) nn);have Xy1:=aA (aM Xy0.out (by omega) nn);clear W0 N0 O0 Fx0 Fy0 Xx0 Xy0 nn hW;obtain⟨cXx_1_0,cXx_1_1,cXx_1_2,cXx_1_3,cXx_1_4,cXx_1_5,cXx_1_6⟩:=aI Xx1.out;obtain⟨cXy_1_0,cXy_1_1,cXy_1_2,cXy_1_3,cXy_1_4,cXy_1_5,cXy_1_6⟩:=aI Xy1.out;have hlen1:=aN hw;have R1:=aA hw;clear hw;go_wp2_with fail;refine (eO 91 _ rfl W1 (by omega)).mono ?_;rintro e w2 ⟨rfl,l2,hW,hw,nn,ne2⟩;have N2:=aA (N1.out.trans nn);have W2:=aA hW;have O2:=aA (aR O1.out nn.below);have Fx2:=aA (aE Fx1.out nn);have Fy2:=aA (aE Fy1.out nn);have Xx2:=aA (aM Xx1.out (by omega) nn);have Xy2:=aA (aM Xy1.out (by omega) nn);clear W1 N1 O1 Fx1 Fy1 Xx1 Xy1 nn hW cXx_1_0 cXx_1_1 cXx_1_2 cXx_1_3 cXx_1_4 cXx_1_5 cXx_1_6 cXy_1_0 cXy_1_1 cXy_1_2 cXy_1_3 cXy_1_4 cXy_1_5 cXy_1_6;obtain⟨cXx_2_0,cXx_2_1,cXx_2_2,cXx_2_3,cXx_2_4,cXx_2_5,cXx_2_6⟩:=aI Xx2.out;obtain⟨cXy_2_0,cXy_2_1,cXy_2_2,cXy_2_3,cXy_2_4,cXy_2_5,cXy_2_6⟩:=aI Xy2.out;have hlen2:=aN hw;simp only [List.length_cons,List.length_nil] at hlen2;have R2:=aA (R1.out.trans hw);clear hw R1;go_wp2_with fail;refine (HXy.out B b _ _ _ _ W2 O2 (aA Fy2.out.1) Fy2.out.2.1 Fy2.out.2.2.1 Fy2.out.2.2.2 (by omega)).mono ?_;rintro e w3 ⟨rfl,l3,hW,hw,nn⟩;have N3:=aA (N2.out.trans nn);have W3:=aA hW;have O3:=aA (aR O2.out nn.below);have Fx3:=aA (aE Fx2.out nn);have Fy3:=aA (aE Fy2.out nn);have Xx3:=aA (aM Xx2.out (by omega) nn);have Xy3:=aA (aM Xy2.out (by omega) nn);clear W2 N2 O2 Fx2 Fy2 Xx2 Xy2 nn hW cXx_2_0 cXx_2_1 cXx_2_2 cXx_2_3 cXx_2_4 cXx_2_5 cXx_2_6 cXy_2_0 cXy_2_1 cXy_2_2 cXy_2_3 cXy_2_4 cXy_2_5 cXy_2_6;obtain⟨cXx_3_0,cXx_3_1,cXx_3_2,cXx_3_3,cXx_3_4,cXx_3_5,cXx_3_6⟩:=aI Xx3.out;obtain⟨cXy_3_0,cXy_3_1,cXy_3_2,cXy_3_3,cXy_3_4,cXy_3_5,cXy_3_6⟩:=aI Xy3.out;have hlen3:=aN hw;have R3:=aA (R2.out.trans hw);clear hw R2;go_wp2_with fail;refine (eO 93 _ rfl W3 (by omega)).mono ?_;rintro e w4 ⟨rfl,l4,hW,hw,nn,ne4⟩;have N4:=aA (N3.out.trans nn);have W4:=aA hW;have O4:=aA (aR O3.out nn.below);have Fx4:=aA (aE Fx3.out nn);have Fy4:=aA (aE Fy3.out nn);have Xx4:=aA (aM Xx3.out (by omega) nn);have Xy4:=aA (aM Xy3.out (by omega) nn);clear W3 N3 O3 Fx3 Fy3 Xx3 Xy3 nn hW cXx_3_0 cXx_3_1 cXx_3_2 cXx_3_3 cXx_3_4 cXx_3_5 cXx_3_6 cXy_3_0 cXy_3_1 cXy_3_2 cXy_3_3 cXy_3_4 cXy_3_5 cXy_3_6;obtain⟨cXx_4_0,cXx_4_1,cXx_4_2,cXx_4_3,cXx_4_4,cXx_4_5,cXx_4_6⟩:=aI Xx4.out;obtain⟨cXy_4_0,cXy_4_1,cXy_4_2,cXy_4_3,cXy_4_4,cXy_4_5,cXy_4_6⟩:=aI Xy4.out;have hlen4:=aN hw;simp only [List.length_cons,List.length_nil] at hlen4;have R4:=aA (R3.out.trans hw);clear hw R3;have D:=aA (bQ W4.out R4.out (show (((cG (textN x) 8++[91])++(textN y).e)++[93])=hM (textN x) (textN y) by rw [HT.out];first | done | simp only [List.append_assoc,List.cons_append,List.nil_append]) N4.out);clear W4 N4 O4 R4 Fx4 Fy4 Xx4 Xy4 cXx_4_0 cXx_4_1 cXx_4_2 cXx_4_3 cXx_4_4 cXx_4_5 cXx_4_6 cXy_4_0 cXy_4_1 cXy_4_2 cXy_4_3 cXy_4_4 cXy_4_5 cXy_4_6;go_wp2_with fail;go_end0
 exact D.out
theorem Eo (x:Nd) (hxx:dY x) (xa1:Option Addr) (xq1:Nat) (xa2:Option Addr) (xq2:Nat) (B b:Nat) (l:List UInt8) (w:World) (W:Hid (Wr B b l w)) (O:Hid (Ok B w)) (Fx:Hid (oA B x (.slice xa1 x.names.length xq1) (.slice xa2 x.kids.length xq2) 1 w)) (hl:l.length+(cG (textN x) (if x.kind=13 then 9 else 8)).length≤100000000) :
  Calls Tryz.prog 145 #[.pointer (some ⟨b,0,none⟩),.agg #[.int .i64 x.kind,.int .i64 x.op,.int .i64 x.num,.string x.str,.slice xa1 x.names.length xq1,.slice xa2 x.kids.length xq2,.int .i64 x.pl]] w (jB B b l (cG (textN x) (if x.kind=13 then 9 else 8)) w):=by
 have hlt:=fP W.out;have hal:=bG w (.cells #[.int .i64 x.kind,.int .i64 x.op,.int .i64 x.num,.string x.str,.slice xa1 x.names.length xq1,.slice xa2 x.kids.length xq2,.int .i64 x.pl] 26);have N0:=aA (show Near B b w _ from Near.ofBelow hal O.out.1);have W0:=aA (bZ W.out hal);have O0:=aA (aR O.out N0.out.below);have Fx0:=aA (aE Fx.out N0.out);have HXx:=aA hxx;have Xx0:=aA (cL w x.kind x.op x.num x.str (.slice xa1 x.names.length xq1) (.slice xa2 x.kids.length xq2) x.pl);clear hal W O Fx hxx;by_cases hk:x.kind=13
 ·have HT:=aA (show cG (textN x) (if x.kind=13 then 9 else 8)=cG (textN x) 9 by rw [if_pos hk]);rw [HT.out] at hl ⊢;obtain⟨xk,xo,xn,xs,xns,xks,xp⟩:=x;obtain rfl:xk=13:=hk;simp only [Nd.kind,Nd.op,Nd.num,Nd.str,Nd.pl,Nd.names,Nd.kids] at *
  go_enter Tryz.func145,Tryz.ntmps145;go_wp2_with fail;refine (jW (.mk 13 xo xn xs xns xks xp) HXx.out 9 (by omega) (by omega) B b _ _ _ _ W0 O0 Fx0 (by omega)).mono ?_;rintro e w1 ⟨rfl,l1,hW,hw,nn⟩;have N1:=aA (N0.out.trans nn);have W1:=aA hW;have O1:=aA (aR O0.out nn.below);have Fx1:=aA (aE Fx0.out nn);have Xx1:=aA (aM Xx0.out (by omega) nn);clear W0 N0 O0 Fx0 Xx0 nn hW;obtain⟨cXx_1_0,cXx_1_1,cXx_1_2,cXx_1_3,cXx_1_4,cXx_1_5,cXx_1_6⟩:=aI Xx1.out;have hlen1:=aN hw;have R1:=aA hw;clear hw;have D:=aA (bQ W1.out R1.out rfl N1.out);clear W1 N1 O1 R1 Fx1 Xx1 cXx_1_0 cXx_1_1 cXx_1_2 cXx_1_3 cXx_1_4 cXx_1_5 cXx_1_6;go_wp2_with fail;go_end0
  exact D.out
 ·have HT:=aA (show cG (textN x) (if x.kind=13 then 9 else 8)=cG (textN x) 8 by rw [if_neg hk]);rw [HT.out] at hl ⊢;have ek:(x.kind==13)=false:=beq_eq_false_iff_ne.2 hk;clear hk;go_enter Tryz.func145,Tryz.ntmps145;go_wp2_with fail;refine (jW x HXx.out 8 (by omega) (by omega) B b _ _ _ _ W0 O0 Fx0 (by omega)).mono ?_;rintro e w1 ⟨rfl,l1,hW,hw,nn⟩;have N1:=aA (N0.out.trans nn);have W1:=aA hW;have O1:=aA (aR O0.out nn.below);have Fx1:=aA (aE Fx0.out nn);have Xx1:=aA (aM Xx0.out (by omega) nn);clear W0 N0 O0 Fx0 Xx0 nn hW;obtain⟨cXx_1_0,cXx_1_1,cXx_1_2,cXx_1_3,cXx_1_4,cXx_1_5,cXx_1_6⟩:=aI Xx1.out;have hlen1:=aN hw;have R1:=aA hw;clear hw;have D:=aA (bQ W1.out R1.out rfl N1.out);clear W1 N1 O1 R1 Fx1 Xx1 cXx_1_0 cXx_1_1 cXx_1_2 cXx_1_3 cXx_1_4 cXx_1_5 cXx_1_6;go_wp2_with fail;go_end0
  exact D.out
end Go.Proofs.YtdnnmjhfidimcaaGreatDoor
