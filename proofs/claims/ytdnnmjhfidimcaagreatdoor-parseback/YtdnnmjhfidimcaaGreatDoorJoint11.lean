/- The parser in memory. Whether two trees are alike, as the document asks it. -/
import Derived.Test.YtdnnmjhfidimcaaGreatDoorJoint3
import Derived.Test.YtdnnmjhfidimcaaGreatDoorJoint4
import Derived.Test.YtdnnmjhfidimcaaGreatDoorPsMay
import Derived.Deep.RegionHeld3
import Derived.Test.YtdnnmjhfidimcaaGreatDoorJoint8
import Derived.Test.YtdnnmjhfidimcaaGreatDoorJoint7
namespace Go.Proofs.YtdnnmjhfidimcaaGreatDoor
set_option maxHeartbeats 6400000
open Go.RowKit
def dT (g:Nat) (T:TypeId) (cs:Array Value) (w:World):Prop:=w.heap[g]? = some (.cells cs T (0,0))
theorem aF {g:Nat} {T:TypeId} {cs:Array Value} {w:World} (h:dT g T cs w):g<w.heap.size:=by
 rcases Nat.lt_or_ge g w.heap.size with h' | h'
 ·exact h'
 ·simp [dT,Array.getElem?_eq_none h'] at h
theorem aJ (w:World) (T:TypeId) (cs:Array Value):dT w.heap.size T cs (w.alloc (.cells cs T)):=heap_alloc_new w _
theorem aB {g:Nat} {T:TypeId} {cs:Array Value} {w:World} (h:dT g T cs w) (i:Nat):w.cell? ⟨g,i,none⟩=cs[i]?:=Lib.cell_of_heap h i
theorem dU {g:Nat} {T:TypeId} {cs:Array Value} {w:World} (h:dT g T cs w) (i:Nat) (v:Value):dT g T (cs.setIfInBounds i v) (w.setCell ⟨g,i,none⟩ v):=by
 unfold dT at *
 simp [World.setCell,Array.getElem?_modify,h]
theorem bL {g:Nat} {T:TypeId} {cs:Array Value} {w:World} (h:dT g T cs w) (i:Nat):w.frozen? ⟨g,i,none⟩=false:=by
 unfold dT at h;simp [World.frozen?,h]
structure But (P:Nat) (w w':World):Prop where
 os:w'.os=w.os
 tape:w'.tape=w.tape
 output:w'.output=w.output
 size:w.heap.size≤w'.heap.size
 block:∀ k,k<w.heap.size→k≠P→w'.heap[k]? = w.heap[k]?
theorem But.refl (P:Nat) (w:World):But P w w:=⟨rfl,rfl,rfl,Nat.le_refl _,fun _ _ _=>rfl⟩
theorem But.trans {P:Nat} {a b c:World} (h:But P a b) (k:But P b c):But P a c:=
 ⟨k.os.trans h.os,k.tape.trans h.tape,k.output.trans h.output,Nat.le_trans h.size k.size,fun i hi hp=>(k.block i (Nat.lt_of_lt_of_le hi h.size) hp).trans (h.block i hi hp)⟩
theorem But.of {P:Nat} {a b:World} (h:Below a.heap.size a b):But P a b:=⟨h.os,h.tape,h.output,h.size,fun k hk _=>h.block k hk⟩
theorem But.set {P:Nat} (w:World) (i:Nat) (v:Value):But P w (w.setCell ⟨P,i,none⟩ v):=
 ⟨rfl,rfl,rfl,by simp [World.setCell],fun _ _ hp=>Below.heap_setCell _ _ _ _ hp⟩
theorem But.below {P:Nat} {w w':World} (h:But P w w') {B:Nat} (hB:B≤P) (hw:B≤w.heap.size):Below B w w':=
 ⟨h.os,h.tape,h.output,h.size,fun k hk=>h.block k (by omega) (by omega)⟩
theorem But.cell {P:Nat} {w w':World} (h:But P w w') {g i:Nat} (hg:g<w.heap.size) (hp:g≠P):w'.cell? ⟨g,i,none⟩=w.cell? ⟨g,i,none⟩:=World.cell?_of_block (w:=w) (h.block g hg hp)
theorem aD {P g:Nat} {T:TypeId} {cs:Array Value} {a c:World} (h:dT g T cs a) (k:But P a c) (hp:g≠P):dT g T cs c:=(k.block g (aF h) hp).trans h
theorem aC {g:Nat} {T:TypeId} {cs:Array Value} {a c:World} (h:dT g T cs a) (k:Below a.heap.size a c):dT g T cs c:=(k.block g (aF h)).trans h
def AS (R:Nat) (L:List Tok) (w:World):Prop:=∀ (i:Nat) (h:i<L.length),
 w.cell? ⟨R,i*4,none⟩=some (.int .i64 L[i].kind)∧w.cell? ⟨R,i*4+1,none⟩=some (.string L[i].text)∧w.cell? ⟨R,i*4+2,none⟩=some (.int .i64 L[i].num)∧w.cell? ⟨R,i*4+3,none⟩=some (.int .i64 L[i].pl)
structure TokOk (L:List Tok):Prop where
 right:GT L
 few:L.length≤601
 last:∃ f e,L=f++[e]∧e.kind=6∧∀ t∈f,t.kind≠6
structure PSt (P:Nat) (L:List Tok) (w:World) (l:List Tok):Prop where
 ok:TokOk L
 suf:l <:+ L
 ne:l≠[]
 sg:Ok P w
 mem:∃ R cap,R<P∧L.length≤cap∧AS R L w∧dT P 66 #[.slice (some ⟨R,0,none⟩) L.length cap,.int .i64 ((L.length - l.length:Nat):Int)] w
theorem CK {P R:Nat} {L:List Tok} {a c:World} (h:AS R L a) (k:But P a c) (hp:R<P) (hs:P<a.heap.size):AS R L c:=by
 intro i hi;obtain⟨h1,h2,h3,h4⟩:=h i hi;have hr:R<a.heap.size:=by omega
 have hne:R≠P:=by omega
 exact⟨(k.cell hr hne).trans h1,(k.cell hr hne).trans h2,(k.cell hr hne).trans h3,(k.cell hr hne).trans h4⟩
theorem PSt.lt {P:Nat} {L l:List Tok} {w:World} (h:PSt P L w l):P<w.heap.size:=by
 obtain⟨_,_,_,_,_,hb⟩:=h.mem;exact aF hb
theorem PSt.on {P:Nat} {L l:List Tok} {a c:World} (h:PSt P L a l) (k:Below a.heap.size a c):PSt P L c l:=by
 have hlt:=h.lt;obtain⟨R,cap,h1,h2,h3,h4⟩:=h.mem;exact⟨h.ok,h.suf,h.ne,aR h.sg (k.mono (Nat.le_of_lt hlt)),R,cap,h1,h2,CK h3 (But.of k) h1 hlt,aC h4 k⟩
theorem TokOk.more {L l:List Tok} (h:TokOk L) (hs:l <:+ L) (hk:(cur l).kind≠6) (hne:l≠[]):l.tail≠[]:=by
 obtain⟨f,e,rfl,h6,_⟩:=h.last;obtain⟨pre,hp⟩:=hs;cases l with
 | nil=>exact absurd rfl hne
 | cons t r=>
  intro hr;have hr':r=[]:=hr;subst hr';have:=(List.append_inj' hp (by simp)).2;injection this with h1 _;subst h1;exact hk h6
theorem eH (t:Tok) (l:List Tok) (x:List UInt8):cD (t::l) x=gP t x:=rfl
theorem EP {t:Tok} {x:List UInt8} (h:gP t x=true):t.kind≠6:=by
 intro e;unfold gP at h;rw [e] at h;cases h
theorem PSt.step {P:Nat} {L:List Tok} {t:Tok} {r:List Tok} {w w':World} (h:PSt P L w (t::r)) (hk:t.kind≠6) {v:Value} (hv:v=.int .i64 ((L.length - r.length:Nat):Int)) (hw:w'=w.setCell ⟨P,1,none⟩ v):PSt P L w' r∧But P w w':=by
 subst hw;have hlt:=h.lt;have hne:=h.ok.more h.suf (l:=t::r) hk (by simp);obtain⟨R,cap,h1,h2,h3,h4⟩:=h.mem;refine⟨⟨h.ok,(List.suffix_cons t r).trans h.suf,hne,aR h.sg ((But.set w 1 v).below (Nat.le_refl _) (Nat.le_of_lt hlt)),R,cap,h1,h2,CK h3 (But.set w 1 v) h1 hlt,?_⟩,But.set w 1 v⟩;have:=dU h4 1 v;subst hv;simpa using this
theorem PSt.here {P:Nat} {L l:List Tok} {w:World} (h:PSt P L w l):∃ R cap i,R<w.heap.size∧P<w.heap.size∧i<L.length∧L.length≤cap∧L.length≤601∧(i:Int)=((L.length - l.length:Nat):Int)∧
  w.cell? ⟨P,0,none⟩=some (.slice (some ⟨R,0,none⟩) L.length cap)∧w.cell? ⟨P,1,none⟩=some (.int .i64 (i:Int))∧w.frozen? ⟨P,1,none⟩=false∧
  w.cell? ⟨R,i*4,none⟩=some (.int .i64 (cur l).kind)∧w.cell? ⟨R,i*4+1,none⟩=some (.string (cur l).text)∧w.cell? ⟨R,i*4+2,none⟩=some (.int .i64 (cur l).num)∧w.cell? ⟨R,i*4+3,none⟩=some (.int .i64 (cur l).pl):=by
 have hlt:=h.lt;obtain⟨R,cap,h1,h2,h3,h4⟩:=h.mem;obtain⟨pre,hp⟩:=h.suf;cases l with
 | nil=>exact absurd rfl h.ne
 | cons t r=>
  have hl:L.length - (t::r).length=pre.length:=by rw [← hp];simp
  have hi:pre.length<L.length:=by rw [← hp];simp
  have ht:L[pre.length]=t:=by simp [← hp]
  refine⟨R,cap,pre.length,by omega,hlt,hi,h2,h.ok.few,by rw [hl],?_,?_,bL h4 1,?_⟩
  ·rw [aB h4];rfl
  ·rw [aB h4,hl];rfl
  ·have:=h3 pre.length hi;rw [ht] at this;exact this
theorem cN {fn:Func} {t:Tmp} (h:fn.results=#[.cell t 26]) {tmps:Array Value} {g:Nat} {w:World} {a b c d e f p:Value} (ht:tmps.getD t undef=.pointer (some ⟨g,0,none⟩)) (hb:dT g 26 #[a,b,c,d,e,f,p] w) :
  (results fn tmps).run Tryz.prog w=.ok (.agg #[a,b,c,d,e,f,p]) w:=by
 rw [Array.getD_eq_getD_getElem?] at ht;have h0:=aB hb 0;have h1:=aB hb 1;have h2:=aB hb 2;have h3:=aB hb 3;have h4:=aB hb 4;have h5:=aB hb 5;have h6:=aB hb 6;simp at h0 h1 h2 h3 h4 h5 h6;simp [results,h,ht,go_sem,asAddr,h0,h1,h2,h3,h4,h5,h6]
theorem Pz {fn:Func} {t:Tmp} (h:fn.results=#[.cell t 67]) {tmps:Array Value} {g:Nat} {w:World} {a b c d:Value} (ht:tmps.getD t undef=.pointer (some ⟨g,0,none⟩)) (hb:dT g 67 #[a,b,c,d] w) :
  (results fn tmps).run Tryz.prog w=.ok (.agg #[a,b,c,d]) w:=by
 rw [Array.getD_eq_getD_getElem?] at ht;have h0:=aB hb 0;have h1:=aB hb 1;have h2:=aB hb 2;have h3:=aB hb 3;simp at h0 h1 h2 h3;simp [results,h,ht,go_sem,asAddr,h0,h1,h2,h3]
theorem cX (P:Nat) (L l:List Tok) (w:World) (H:Hid (PSt P L w l)) :
  Calls Tryz.prog 37 #[.pointer (some ⟨P,0,none⟩)] w fun e w'=>e=.returned (cur l).val∧Below w.heap.size w w':=by
 obtain⟨R,cap,i,hR,hP,hi,hcap,h601,hil,d0,d1,_,c0,c1,c2,c3⟩:=H.out.here;have hil':=aA hil;clear hil H;generalize cur l=t at *
 have hi2:(i:Int)<(L.length:Int):=by omega
 go_enter Tryz.func37,Tryz.ntmps37;go_wp2_with fail;go_region;go_wp2_with fail;exact bodyPost_ret (Pz rfl rfl (aJ w _ _)) rfl ⟨rfl,((Below.refl _ _).alloc (Nat.le_refl _) _).drew⟩
theorem PSt.drew {P:Nat} {L l:List Tok} {w:World} (h:PSt P L w l):PSt P L w.drew l:=h.on (Below.refl _ _).drew
theorem qV (P:Nat) (L l:List Tok) (x:ByteArray) (w:World) (H:Hid (PSt P L w l)) :
  Calls Tryz.prog 64 #[.pointer (some ⟨P,0,none⟩),.string x] w fun e w'=>e=.returned (.bool (cD l x.data.toList))∧Below w.heap.size w w':=by
 rw [show cD l x.data.toList=(((cur l).kind==2||(cur l).kind==5)&&(cur l).text.toList==x.toList) by unfold cD gP;rw [Lib.toList_data,Lib.toList_data]];have HC:=cX P L l w H;clear H;generalize cur l=t at *
 unfold Tok.val at HC;have HC':=aA HC;clear HC;cases h2:(t.kind==2) with
 | true=>
  go_enter Tryz.func64,Tryz.ntmps64;go_wp2_with fail;refine HC'.out.mono ?_;rintro e w1 ⟨rfl,b1⟩;have B1:=aA b1;clear b1 HC';go_wp2_with fail;go_ret;exact⟨rfl,(B1.out.alloc B1.out.size _)⟩
 | false=>
  cases h5:(t.kind==5) with
  | true=>
   go_enter Tryz.func64,Tryz.ntmps64;go_wp2_with fail;refine HC'.out.mono ?_;rintro e w1 ⟨rfl,b1⟩;have B1:=aA b1;clear b1 HC';go_wp2_with fail;go_ret;exact⟨rfl,(B1.out.alloc B1.out.size _)⟩
  | false=>
   go_enter Tryz.func64,Tryz.ntmps64;go_wp2_with fail;refine HC'.out.mono ?_;rintro e w1 ⟨rfl,b1⟩;have B1:=aA b1;clear b1 HC';go_wp2_with fail;go_ret;exact⟨rfl,(B1.out.alloc B1.out.size _)⟩
theorem bI (P:Nat) (L l:List Tok) (x:ByteArray) (w:World) (H:Hid (PSt P L w l)) (hh:cD l x.data.toList=false) :
  Calls Tryz.prog 97 #[.pointer (some ⟨P,0,none⟩),.string x] w fun e w'=>e=.returned (.bool false)∧Below w.heap.size w w':=by
 go_enter Tryz.func97,Tryz.ntmps97;go_wp2_with fail;refine (qV P L l x _ H).mono ?_;rintro e w1 ⟨he,b1⟩;rw [hh] at he;subst he;have B1:=aA b1;clear b1 H hh;go_wp2_with fail;go_ret;exact⟨rfl,B1.out⟩
theorem cT (P:Nat) (L:List Tok) (t:Tok) (r:List Tok) (x:ByteArray) (w:World) (H:Hid (PSt P L w (t::r))) (hh:gP t x.data.toList=true) :
  Calls Tryz.prog 97 #[.pointer (some ⟨P,0,none⟩),.string x] w fun e w'=>e=.returned (.bool true)∧PSt P L w' r∧But P w w':=by
 go_enter Tryz.func97,Tryz.ntmps97;go_wp2_with fail;refine (qV P L (t::r) x _ H).mono ?_;rintro e w1 ⟨he,b1⟩;rw [eH,hh] at he;subst he;have B1:=aA b1;have S1:=aA (H.out.on b1);obtain⟨R,cap,i,hR,hP,hi,hcap,h601,hil,d0,d1,dz,c0,c1,c2,c3⟩:=S1.out.here;have HST:=aA (show ∀ v,v=.int .i64 ((i:Int)+1)→∀ w',w'=w1.setCell ⟨P,1,none⟩ v→PSt P L w' r∧But P w1 w' from fun v hv w' hw=>S1.out.step (EP hh) (by
  rw [hv];congr 1;have:(t::r).length≤L.length:=S1.out.suf.length_le;simp only [List.length_cons] at this hil ⊢
  omega) hw)
 clear hil hh b1 H S1;go_wp2_with fail;go_ret;have Z:=HST.out _ rfl _ rfl;exact⟨rfl,Z.1,(But.of B1.out).trans Z.2⟩
theorem Ce {w a c:World} {b off b' off':Nat} {k o n:Int} {s:ByteArray} {nv kv:Value} {p k' o' n':Int} {s':ByteArray} {nv' kv':Value} {p':Int} {x0 x1 x2 x6 y0 y1 y2 y6:Int} {x3 y3:ByteArray} {xn xk yn yk:Value}
  (h:(Below w.heap.size w a∧b<a.heap.size∧b'<a.heap.size∧kZ w.heap.size k o n s nv kv p a∧kZ (w.heap.size+1) k' o' n' s' nv' kv' p' a)∧a.cell? ⟨w.heap.size,5,none⟩=some kv∧a.cell? ⟨w.heap.size+1,5,none⟩=some kv'∧a.cell? ⟨b,off,none⟩=some (.int .i64 x0)∧a.cell? ⟨b,off+1,none⟩=some (.int .i64 x1)∧a.cell? ⟨b,off+2,none⟩=some (.int .i64 x2)∧a.cell? ⟨b,off+3,none⟩=some (.string x3)∧a.cell? ⟨b,off+4,none⟩=some xn∧a.cell? ⟨b,off+5,none⟩=some xk∧a.cell? ⟨b,off+6,none⟩=some (.int .i64 x6)∧a.cell? ⟨b',off',none⟩=some (.int .i64 y0)∧a.cell? ⟨b',off'+1,none⟩=some (.int .i64 y1)∧a.cell? ⟨b',off'+2,none⟩=some (.int .i64 y2)∧a.cell? ⟨b',off'+3,none⟩=some (.string y3)∧a.cell? ⟨b',off'+4,none⟩=some yn∧a.cell? ⟨b',off'+5,none⟩=some yk∧a.cell? ⟨b',off'+6,none⟩=some (.int .i64 y6)) (q:Below a.heap.size a c) :
  (Below w.heap.size w c∧b<c.heap.size∧b'<c.heap.size∧kZ w.heap.size k o n s nv kv p c∧kZ (w.heap.size+1) k' o' n' s' nv' kv' p' c)∧c.cell? ⟨w.heap.size,5,none⟩=some kv∧c.cell? ⟨w.heap.size+1,5,none⟩=some kv'∧c.cell? ⟨b,off,none⟩=some (.int .i64 x0)∧c.cell? ⟨b,off+1,none⟩=some (.int .i64 x1)∧c.cell? ⟨b,off+2,none⟩=some (.int .i64 x2)∧c.cell? ⟨b,off+3,none⟩=some (.string x3)∧c.cell? ⟨b,off+4,none⟩=some xn∧c.cell? ⟨b,off+5,none⟩=some xk∧c.cell? ⟨b,off+6,none⟩=some (.int .i64 x6)∧c.cell? ⟨b',off',none⟩=some (.int .i64 y0)∧c.cell? ⟨b',off'+1,none⟩=some (.int .i64 y1)∧c.cell? ⟨b',off'+2,none⟩=some (.int .i64 y2)∧c.cell? ⟨b',off'+3,none⟩=some (.string y3)∧c.cell? ⟨b',off'+4,none⟩=some yn∧c.cell? ⟨b',off'+5,none⟩=some yk∧c.cell? ⟨b',off'+6,none⟩=some (.int .i64 y6):=by
 obtain⟨⟨h1,h2,h3,h4,h5⟩,d0,d1,e0,e1,e2,e3,e4,e5,e6,f0,f1,f2,f3,f4,f5,f6⟩:=h;have g0:=yB h4;have g1:=yB h5;exact⟨⟨aG h1 (Nat.le_refl _) q,Nat.lt_of_lt_of_le h2 q.size,Nat.lt_of_lt_of_le h3 q.size,lX h4 q,lX h5 q⟩,bF q g0 d0,bF q g1 d1,
  bF q h2 e0,bF q h2 e1,bF q h2 e2,bF q h2 e3,bF q h2 e4,bF q h2 e5,bF q h2 e6,
  bF q h3 f0,bF q h3 f1,bF q h3 f2,bF q h3 f3,bF q h3 f4,bF q h3 f5,bF q h3 f6⟩
def QS (x:Nd):Prop:=∀ (y:Nd) (B:Nat) (w:World) (nv kv nv' kv':Value),B≤w.heap.size→Hid (jS B w x nv kv)→Hid (jS B w y nv' kv')→dL x=true→bM x≤1000000→
  Calls Tryz.prog 10 #[.agg #[.int .i64 x.kind,.int .i64 x.op,.int .i64 x.num,.string x.str,nv,kv,.int .i64 x.pl],.agg #[.int .i64 y.kind,.int .i64 y.op,.int .i64 y.num,.string y.str,nv',kv',.int .i64 y.pl]] w fun e w'=>
   e=.returned (.bool (sameN x y))∧Below w.heap.size w w'
theorem Cx (x:Nd):QS x:=by
 refine Nd.ind ?_ x;clear x;intro k o n s ns ks p ih y B w nv kv nv' kv' hB h1 h2 hsm hc;obtain⟨k',o',n',s',ns',ks',p'⟩:=y;obtain⟨_,hns,_,hsk⟩:=lO hsm;simp only [bM] at hc;obtain⟨hs1,hk1⟩:=ndIn_mk.1 h1.out;obtain⟨hs2,hk2⟩:=ndIn_mk.1 h2.out;obtain⟨a1,q1,rfl,hss1⟩:=eR hs1;obtain⟨a3,q3,rfl,hss2⟩:=eR hs2;obtain⟨a2,q2,rfl,hkk1⟩:=eA hk1;obtain⟨a4,q4,rfl,hkk2⟩:=eA hk2;have hlen:=dZ ks;simp only [Nd.kind,Nd.op,Nd.num,Nd.str,Nd.pl];have hal:=pH w (.cells #[.int .i64 k,.int .i64 o,.int .i64 n,.string s,.slice a1 ns.length q1,.slice a2 ks.length q2,.int .i64 p] 26) (.cells #[.int .i64 k',.int .i64 o',.int .i64 n',.string s',.slice a3 ns'.length q3,.slice a4 ks'.length q4,.int .i64 p'] 26);have AL:=aA hal;have BX:=aA (Gv w k o n s (.slice a1 ns.length q1) (.slice a2 ks.length q2) p k' o' n' s' (.slice a3 ns'.length q3) (.slice a4 ks'.length q4) p');have S1:=aA hss1;have S2:=aA hss2;have K1:=aA hkk1;have K2:=aA hkk2;have HM:=aA (MZ k o n s ns ks p k' o' n' s' ns' ks' p');have IH:=aA ih;clear ih hs1 hs2 hk1 hk2 h1 h2 hal hsm hss1 hss2 hkk1 hkk2;cases ek:(k==k') with
 | false=>
  have ek':(k != k')=true:=by simp [bne,ek]
  have H:=aA (show sameN (.mk k o n s ns ks p) (.mk k' o' n' s' ns' ks' p')=false by rw [HM.out];unfold iK;rw [ek];simp);go_enter Tryz.func10,Tryz.ntmps10;go_wp2_with fail;go_ret;exact⟨by rw [H.out];rfl,AL.out⟩
 | true=>
 have ek':(k != k')=false:=by simp [bne,ek]
 cases eo:(o==o') with
 | false=>
  have eo':(o != o')=true:=by simp [bne,eo]
  have H:=aA (show sameN (.mk k o n s ns ks p) (.mk k' o' n' s' ns' ks' p')=false by rw [HM.out];unfold iK;rw [eo];simp);go_enter Tryz.func10,Tryz.ntmps10;go_wp2_with fail;go_ret;exact⟨by rw [H.out];rfl,AL.out⟩
 | true=>
 have eo':(o != o')=false:=by simp [bne,eo]
 cases en:(n==n') with
 | false=>
  have en':(n != n')=true:=by simp [bne,en]
  have H:=aA (show sameN (.mk k o n s ns ks p) (.mk k' o' n' s' ns' ks' p')=false by rw [HM.out];unfold iK;rw [en];simp);go_enter Tryz.func10,Tryz.ntmps10;go_wp2_with fail;go_ret;exact⟨by rw [H.out];rfl,AL.out⟩
 | true=>
 have en':(n != n')=false:=by simp [bne,en]
 cases es:(s.toList==s'.toList) with
 | false=>
  have es1:(s.toList != s'.toList)=true:=by simp [bne,es]
  have es':=es;rw [qN] at es';have H:=aA (show sameN (.mk k o n s ns ks p) (.mk k' o' n' s' ns' ks' p')=false by rw [HM.out];unfold iK;rw [es'];simp);clear es';go_enter Tryz.func10,Tryz.ntmps10;go_wp2_with fail;go_ret;exact⟨by rw [H.out];rfl,AL.out⟩
 | true=>
 have es1:(s.toList != s'.toList)=false:=by simp [bne,es]
 by_cases hnl:ns.length=ns'.length
 case neg=>
  have en1:((ns.length:Int) != (ns'.length:Int))=true:=by rw [bne_iff_ne];omega
  have hnf:=zE hnl;clear hnl;have H:=aA (show sameN (.mk k o n s ns ks p) (.mk k' o' n' s' ns' ks' p')=false by rw [HM.out];unfold iK;rw [hnf];simp);clear hnf;go_enter Tryz.func10,Tryz.ntmps10;go_wp2_with fail;go_ret;exact⟨by rw [H.out];rfl,AL.out⟩
 case pos=>
 have en1:((ns.length:Int) != (ns'.length:Int))=false:=by rw [hnl];simp
 have NL:=aA hnl;clear hnl;by_cases hkl:ks.length=ks'.length
 case neg=>
  have ek1:((ks.length:Int) != (ks'.length:Int))=true:=by rw [bne_iff_ne];omega
  have hkf:(ks.length==ks'.length)=false:=beq_eq_false_iff_ne.2 hkl;clear hkl;have H:=aA (show sameN (.mk k o n s ns ks p) (.mk k' o' n' s' ns' ks' p')=false by rw [HM.out];unfold iK;rw [hkf];simp);clear hkf;go_enter Tryz.func10,Tryz.ntmps10;go_wp2_with fail;go_ret;exact⟨by rw [H.out];rfl,AL.out⟩
 case pos=>
 have ek1:((ks.length:Int) != (ks'.length:Int))=false:=by rw [hkl];simp
 have HK:=aA (show iK k o n s ns ks.length k' o' n' s' ns' ks'.length=namesB ns ns' by
  have es':=es;rw [qN] at es'
  unfold iK;rw [ek,eo,en,es',hkl];simp)
 have KL:=aA hkl;clear hkl;go_enter Tryz.func10,Tryz.ntmps10;go_wp2_with fail;go_loopw [5] (fun i wr=>∃ j:Nat,j≤ns.length∧i=.int .i64 j∧(∀ (q:Nat) (hq:q<ns.length) (hq':q<ns'.length),q<j→ns[q].data.toList=ns'[q].data.toList)∧Below w.heap.size w wr∧kZ w.heap.size k o n s (.slice a1 ns.length q1) (.slice a2 ks.length q2) p wr∧kZ (w.heap.size+1) k' o' n' s' (.slice a3 ns'.length q3) (.slice a4 ks'.length q4) p' wr) (fun i _=>ns.length - (intOf i).toNat)
 case atStart=>exact⟨0,Nat.zero_le _,rfl,fun q _ _ h=>absurd h (Nat.not_lt_zero _),AL.out,BX.out.1,BX.out.2⟩
 case round=>
  clear AL BX;obtain⟨j,hj,rfl,hq,hb,hx,hx'⟩:=hrel;have BB:=aA hb;have HX:=aA hx;have HX':=aA hx';have c4:=(aI hx).2.2.2.2.1;have c4':=(aI hx').2.2.2.2.1;have z1:=hb.size;by_cases hjl:j<ns.length
  ·have hjl':j<ns'.length:=by have:=NL.out;omega
   obtain⟨b,off,rfl,hbB,hat⟩:=S1.out.resolve_left (fun h=>by rw [h] at hjl;cases hjl);obtain⟨b',off',rfl,hbB',hat'⟩:=S2.out.resolve_left (fun h=>by rw [h] at hjl';cases hjl');have c0:=bF (hb.mono hB) hbB (hat j hjl);have c1:=bF (hb.mono hB) hbB' (hat' j hjl');have HN:=aA (fun hn=>CG (l:=ns) (m:=ns') hjl hjl' hn);have HQ:=aA (fun (he:ns[j].data.toList=ns'[j].data.toList)=>show ∀ (q:Nat) (hq:q<ns.length) (hq':q<ns'.length),q<j+1→ns[q].data.toList=ns'[q].data.toList from fun q h1 h2 h3=>by
    rcases Nat.lt_or_ge q j with h4 | h4
    ·exact hq q h1 h2 h4
    ·obtain rfl:q=j:=by omega
     exact he)
   clear hq hat hat' hb hx hx' S1 S2 K1 K2 IH;generalize ns[j]=x at *
   generalize ns'[j]=y at *
   cases hxy:(x.toList==y.toList) with
   | true=>
    have hne:(x.toList != y.toList)=false:=by simp [bne,hxy]
    have H:=aA (HQ.out (by rw [qN] at hxy;exact beq_iff_eq.1 hxy));clear HQ HN;go_wp2_with fail;go_region;all_goals
     go_wp2_with fail;go_roundw
     case rel=>exact⟨j+1,by omega,by go_num,H.out,BB.out.drew,HX.out,HX'.out⟩
     case measure=>simp [intOf];omega
   | false=>
    have hne:(x.toList != y.toList)=true:=by simp [bne,hxy]
    have H:=aA (show sameN (.mk k o n s ns ks p) (.mk k' o' n' s' ns' ks' p')=false by rw [HM.out,HK.out,HN.out (by rw [qN] at hxy;exact beq_eq_false_iff_ne.1 hxy)];rfl);clear HQ HN;go_wp2_with fail;go_region;all_goals
     go_wp2_with fail;go_ret;exact⟨by rw [H.out];rfl,BB.out.drew⟩
  ·have HK2:=aA (show sameN (.mk k o n s ns ks p) (.mk k' o' n' s' ns' ks' p')=mE ks ks' by
    rw [HM.out,HK.out,CF NL.out (fun q h1 h2=>hq q h1 h2 (by omega)),Bool.true_and])
   clear hq hb hx hx' S1 S2 HM HK;go_wp2_with fail;go_loopw [6] (fun i wr=>∃ j:Nat,j≤ks.length∧i=.int .i64 j∧(∀ (q:Nat) (hq:q<ks.length) (hq':q<ks'.length),q<j→sameN ks[q] ks'[q]=true)∧Below w.heap.size w wr∧kZ w.heap.size k o n s (.slice a1 ns.length q1) (.slice a2 ks.length q2) p wr∧kZ (w.heap.size+1) k' o' n' s' (.slice a3 ns'.length q3) (.slice a4 ks'.length q4) p' wr) (fun i _=>ks.length - (intOf i).toNat)
   case atStart=>exact⟨0,Nat.zero_le _,rfl,fun q _ _ h=>absurd h (Nat.not_lt_zero _),BB.out,HX.out,HX'.out⟩
   case round=>
    clear BB HX HX' c4 c4';obtain⟨j,hj,rfl,hq,hb,hx,hx'⟩:=hrel;have BB:=aA hb;have HX:=aA hx;have HX':=aA hx';have c4:=(aI hx).2.2.2.2.2.1;have c4':=(aI hx').2.2.2.2.2.1;by_cases hjl:j<ks.length
    ·have hjl':j<ks'.length:=by have:=KL.out;omega
     obtain⟨b,off,rfl,hbB,hat⟩:=K1.out.resolve_left (fun h=>by rw [h] at hjl;cases hjl);obtain⟨b',off',rfl,hbB',hat'⟩:=K2.out.resolve_left (fun h=>by rw [h] at hjl';cases hjl');obtain⟨nv1,kv1,hnode,hin⟩:=fZ hat j hjl;obtain⟨nv2,kv2,hnode',hin'⟩:=fZ hat' j hjl';have hb':=hb.mono hB;have C1:=aH hnode hbB hb';have C2:=aH hnode' hbB' hb';have hin2:=eQ hb' _ _ _ hin;have hin2':=eQ hb' _ _ _ hin';have ih:=IH.out ks[j] (List.getElem_mem hjl);have hs1:=hsk ks[j] (List.getElem_mem hjl);have hcm:=jM (List.getElem_mem hjl);have HN:=aA (fun hn=>CE ks ks' j hjl hjl' hn);have HQ:=aA (fun (he:sameN ks[j] ks'[j]=true)=>show ∀ (q:Nat) (hq:q<ks.length) (hq':q<ks'.length),q<j+1→sameN ks[q] ks'[q]=true from fun q h1 h2 h3=>by
      rcases Nat.lt_or_ge q j with h4 | h4
      ·exact hq q h1 h2 h4
      ·obtain rfl:q=j:=by omega
       exact he)
     generalize ks[j]=x at *
     generalize ks'[j]=y at *
     have N1:=aA hin2;have N2:=aA hin2';have HS:=aA hs1;have hsz:=hb.size;have hbw:b<wr.heap.size:=by omega
     have hbw':b'<wr.heap.size:=by omega
     obtain⟨b1,r1,b2,r2,rfl,rfl⟩:=cC hin;obtain⟨b3,r3,b4,r4,rfl,rfl⟩:=cC hin';have IH':=aA ih;have PP:Hid ((Below w.heap.size w wr∧b<wr.heap.size∧b'<wr.heap.size∧kZ w.heap.size k o n s (.slice a1 ns.length q1) (.slice (some ⟨b,off,none⟩) ks.length q2) p wr∧kZ (w.heap.size+1) k' o' n' s' (.slice a3 ns'.length q3) (.slice (some ⟨b',off',none⟩) ks'.length q4) p' wr)∧wr.cell? ⟨w.heap.size,5,none⟩=some (.slice (some ⟨b,off,none⟩) ks.length q2)∧wr.cell? ⟨w.heap.size+1,5,none⟩=some (.slice (some ⟨b',off',none⟩) ks'.length q4)∧wr.cell? ⟨b,off+j*7,none⟩=some (.int .i64 x.kind)∧wr.cell? ⟨b,off+j*7+1,none⟩=some (.int .i64 x.op)∧wr.cell? ⟨b,off+j*7+2,none⟩=some (.int .i64 x.num)∧wr.cell? ⟨b,off+j*7+3,none⟩=some (.string x.str)∧wr.cell? ⟨b,off+j*7+4,none⟩=some (.slice b1 x.names.length r1)∧wr.cell? ⟨b,off+j*7+5,none⟩=some (.slice b2 x.kids.length r2)∧wr.cell? ⟨b,off+j*7+6,none⟩=some (.int .i64 x.pl)∧wr.cell? ⟨b',off'+j*7,none⟩=some (.int .i64 y.kind)∧wr.cell? ⟨b',off'+j*7+1,none⟩=some (.int .i64 y.op)∧wr.cell? ⟨b',off'+j*7+2,none⟩=some (.int .i64 y.num)∧wr.cell? ⟨b',off'+j*7+3,none⟩=some (.string y.str)∧wr.cell? ⟨b',off'+j*7+4,none⟩=some (.slice b3 y.names.length r3)∧wr.cell? ⟨b',off'+j*7+5,none⟩=some (.slice b4 y.kids.length r4)∧wr.cell? ⟨b',off'+j*7+6,none⟩=some (.int .i64 y.pl)):=⟨⟨hb,hbw,hbw',hx,hx'⟩,c4,c4',C1.1,C1.2.1,C1.2.2.1,C1.2.2.2.1,C1.2.2.2.2.1,C1.2.2.2.2.2.1,C1.2.2.2.2.2.2,C2.1,C2.2.1,C2.2.2.1,C2.2.2.2.1,C2.2.2.2.2.1,C2.2.2.2.2.2.1,C2.2.2.2.2.2.2⟩
     clear hin hin' hin2 hin2' hnode hnode' hat hat' hb hb' ih K1 K2 IH hq hs1 hsk hx hx' C1 C2;go_wp2_with fail;go_region_held3 (fun a=>(Below w.heap.size w a∧b<a.heap.size∧b'<a.heap.size∧kZ w.heap.size k o n s (.slice a1 ns.length q1) (.slice (some ⟨b,off,none⟩) ks.length q2) p a∧kZ (w.heap.size+1) k' o' n' s' (.slice a3 ns'.length q3) (.slice (some ⟨b',off',none⟩) ks'.length q4) p' a)∧a.cell? ⟨w.heap.size,5,none⟩=some (.slice (some ⟨b,off,none⟩) ks.length q2)∧a.cell? ⟨w.heap.size+1,5,none⟩=some (.slice (some ⟨b',off',none⟩) ks'.length q4)∧a.cell? ⟨b,off+j*7,none⟩=some (.int .i64 x.kind)∧a.cell? ⟨b,off+j*7+1,none⟩=some (.int .i64 x.op)∧a.cell? ⟨b,off+j*7+2,none⟩=some (.int .i64 x.num)∧a.cell? ⟨b,off+j*7+3,none⟩=some (.string x.str)∧a.cell? ⟨b,off+j*7+4,none⟩=some (.slice b1 x.names.length r1)∧a.cell? ⟨b,off+j*7+5,none⟩=some (.slice b2 x.kids.length r2)∧a.cell? ⟨b,off+j*7+6,none⟩=some (.int .i64 x.pl)∧a.cell? ⟨b',off'+j*7,none⟩=some (.int .i64 y.kind)∧a.cell? ⟨b',off'+j*7+1,none⟩=some (.int .i64 y.op)∧a.cell? ⟨b',off'+j*7+2,none⟩=some (.int .i64 y.num)∧a.cell? ⟨b',off'+j*7+3,none⟩=some (.string y.str)∧a.cell? ⟨b',off'+j*7+4,none⟩=some (.slice b3 y.names.length r3)∧a.cell? ⟨b',off'+j*7+5,none⟩=some (.slice b4 y.kids.length r4)∧a.cell? ⟨b',off'+j*7+6,none⟩=some (.int .i64 y.pl))
      (first | exact Ce (by assumption) bb | exact Ce PP.out (Below.refl _ _).drew | exact Ce (by assumption) (Below.refl _ _).drew)
      (first
       | (go_at_call 10;refine (IH'.out y B _ _ _ _ _ (by show B≤wr.heap.size;omega) (aA (eQ ((Below.refl B wr).drew) _ _ _ N1.out)) (aA (eQ ((Below.refl B wr).drew) _ _ _ N2.out)) HS.out (by omega)).mono ?_;rintro e wx ⟨rfl,bb⟩))
     rename_i hz;have Z:=aA hz.1;clear hz PP BB N1 N2;generalize sameN x y=sb at *
     cases sb
     ·have H:=aA (HK2.out.trans (HN.out rfl));clear HN HQ;go_wp2_with fail;go_ret;exact⟨by rw [H.out];rfl,Z.out.1⟩
     ·have H:=aA (HQ.out rfl);clear HN HQ;go_wp2_with fail;go_roundw
      case rel=>exact⟨j+1,by omega,by go_num,H.out,Z.out.1,Z.out.2.2.2.1,Z.out.2.2.2.2⟩
      case measure=>simp [intOf];omega
    ·have H:=aA (HK2.out.trans (CD ks ks' KL.out (fun q h1 h2=>hq q h1 h2 (by omega))));clear hq hb hx hx';go_wp2_with fail;go_ret;exact⟨by rw [H.out];rfl,BB.out⟩
end Go.Proofs.YtdnnmjhfidimcaaGreatDoor
