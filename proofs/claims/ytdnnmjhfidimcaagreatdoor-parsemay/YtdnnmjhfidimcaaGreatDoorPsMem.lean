/- The parser in memory. -/
import Derived.Test.YtdnnmjhfidimcaaGreatDoorJoint3
import Derived.Test.YtdnnmjhfidimcaaGreatDoorJoint12
import Derived.Test.YtdnnmjhfidimcaaGreatDoorPsMay
import Derived.Deep.RegionHeld3
namespace Go.Proofs.YtdnnmjhfidimcaaGreatDoor
set_option maxHeartbeats 1600000
open Go.RowKit
def dP (g:Nat) (T:TypeId) (cs:Array Value) (w:World):Prop:=w.heap[g]? = some (.cells cs T (0,0))
theorem aF {g:Nat} {T:TypeId} {cs:Array Value} {w:World} (h:dP g T cs w):g<w.heap.size:=by
 rcases Nat.lt_or_ge g w.heap.size with h' | h'
 ·exact h'
 ·simp [dP,Array.getElem?_eq_none h'] at h
theorem aI (w:World) (T:TypeId) (cs:Array Value):dP w.heap.size T cs (w.alloc (.cells cs T)):=heap_alloc_new w _
theorem aB {g:Nat} {T:TypeId} {cs:Array Value} {w:World} (h:dP g T cs w) (i:Nat):w.cell? ⟨g,i,none⟩=cs[i]?:=Lib.cell_of_heap h i
theorem dQ {g:Nat} {T:TypeId} {cs:Array Value} {w:World} (h:dP g T cs w) (i:Nat) (v:Value):dP g T (cs.setIfInBounds i v) (w.setCell ⟨g,i,none⟩ v):=by
 unfold dP at *
 simp [World.setCell,Array.getElem?_modify,h]
theorem bG {g:Nat} {T:TypeId} {cs:Array Value} {w:World} (h:dP g T cs w) (i:Nat):w.frozen? ⟨g,i,none⟩=false:=by
 unfold dP at h;simp [World.frozen?,h]
structure But (P:Nat) (w w':World):Prop where
 os:w'.os=w.os
 tape:w'.tape=w.tape
 output:w'.output=w.output
 size:w.heap.size≤w'.heap.size
 block:∀ k,k<w.heap.size→k≠P→w'.heap[k]? = w.heap[k]?
theorem But.refl (P:Nat) (w:World):But P w w:=⟨rfl,rfl,rfl,Nat.le_refl _,fun _ _ _=>rfl⟩
theorem But.trans {P:Nat} {a b c:World} (h:But P a b) (k:But P b c):But P a c:=
 ⟨k.os.trans h.os,k.tape.trans h.tape,k.output.trans h.output,Nat.le_trans h.size k.size,fun i hi hp=>(k.block i (Nat.lt_of_lt_of_le hi h.size) hp).trans (h.block i hi hp)⟩
theorem But.of {P:Nat} {a b:World} (h:Below a.heap.size a b):But P a b:=⟨h.os,h.tape,h.output,h.size,fun k hk _=>h.block k hk⟩
theorem But.set {P:Nat} (w:World) (i:Nat) (v:Value):But P w (w.setCell ⟨P,i,none⟩ v):=
 ⟨rfl,rfl,rfl,by simp [World.setCell],fun _ _ hp=>Below.heap_setCell _ _ _ _ hp⟩
theorem But.below {P:Nat} {w w':World} (h:But P w w') {B:Nat} (hB:B≤P) (hw:B≤w.heap.size):Below B w w':=
 ⟨h.os,h.tape,h.output,h.size,fun k hk=>h.block k (by omega) (by omega)⟩
theorem But.cell {P:Nat} {w w':World} (h:But P w w') {g i:Nat} (hg:g<w.heap.size) (hp:g≠P):w'.cell? ⟨g,i,none⟩=w.cell? ⟨g,i,none⟩:=World.cell?_of_block (w:=w) (h.block g hg hp)
theorem aD {P g:Nat} {T:TypeId} {cs:Array Value} {a c:World} (h:dP g T cs a) (k:But P a c) (hp:g≠P):dP g T cs c:=(k.block g (aF h) hp).trans h
theorem aC {g:Nat} {T:TypeId} {cs:Array Value} {a c:World} (h:dP g T cs a) (k:Below a.heap.size a c):dP g T cs c:=(k.block g (aF h)).trans h
def zI (R:Nat) (L:List Tok) (w:World):Prop:=∀ (i:Nat) (h:i<L.length),
 w.cell? ⟨R,i*4,none⟩=some (.int .i64 L[i].kind)∧w.cell? ⟨R,i*4+1,none⟩=some (.string L[i].text)∧w.cell? ⟨R,i*4+2,none⟩=some (.int .i64 L[i].num)∧w.cell? ⟨R,i*4+3,none⟩=some (.int .i64 L[i].pl)
structure TokOk (L:List Tok):Prop where
 right:GT L
 few:L.length≤601
 last:∃ f e,L=f++[e]∧e.kind=6∧∀ t∈f,t.kind≠6
structure PSt (P:Nat) (L:List Tok) (w:World) (l:List Tok):Prop where
 ok:TokOk L
 suf:l <:+ L
 ne:l≠[]
 sg:Ok P w
 mem:∃ R cap,R<P∧L.length≤cap∧zI R L w∧dP P 66 #[.slice (some ⟨R,0,none⟩) L.length cap,.int .i64 ((L.length - l.length:Nat):Int)] w
theorem BD {P R:Nat} {L:List Tok} {a c:World} (h:zI R L a) (k:But P a c) (hp:R<P) (hs:P<a.heap.size):zI R L c:=by
 intro i hi;obtain⟨h1,h2,h3,h4⟩:=h i hi;have hr:R<a.heap.size:=by omega
 have hne:R≠P:=by omega
 exact⟨(k.cell hr hne).trans h1,(k.cell hr hne).trans h2,(k.cell hr hne).trans h3,(k.cell hr hne).trans h4⟩
theorem PSt.lt {P:Nat} {L l:List Tok} {w:World} (h:PSt P L w l):P<w.heap.size:=by
 obtain⟨_,_,_,_,_,hb⟩:=h.mem;exact aF hb
theorem PSt.on {P:Nat} {L l:List Tok} {a c:World} (h:PSt P L a l) (k:Below a.heap.size a c):PSt P L c l:=by
 have hlt:=h.lt;obtain⟨R,cap,h1,h2,h3,h4⟩:=h.mem;exact⟨h.ok,h.suf,h.ne,aR h.sg (k.mono (Nat.le_of_lt hlt)),R,cap,h1,h2,BD h3 (But.of k) h1 hlt,aC h4 k⟩
theorem TokOk.more {L l:List Tok} (h:TokOk L) (hs:l <:+ L) (hk:(cur l).kind≠6) (hne:l≠[]):l.tail≠[]:=by
 obtain⟨f,e,rfl,h6,_⟩:=h.last;obtain⟨pre,hp⟩:=hs;cases l with
 | nil=>exact absurd rfl hne
 | cons t r=>
  intro hr;have hr':r=[]:=hr;subst hr';have:=(List.append_inj' hp (by simp)).2;injection this with h1 _;subst h1;exact hk h6
theorem eD (t:Tok) (l:List Tok) (x:List UInt8):bZ (t::l) x=gH t x:=rfl
theorem DL {t:Tok} {x:List UInt8} (h:gH t x=true):t.kind≠6:=by
 intro e;unfold gH at h;rw [e] at h;cases h
theorem PSt.step {P:Nat} {L:List Tok} {t:Tok} {r:List Tok} {w w':World} (h:PSt P L w (t::r)) (hk:t.kind≠6) {v:Value} (hv:v=.int .i64 ((L.length - r.length:Nat):Int)) (hw:w'=w.setCell ⟨P,1,none⟩ v):PSt P L w' r∧But P w w':=by
 subst hw;have hlt:=h.lt;have hne:=h.ok.more h.suf (l:=t::r) hk (by simp);obtain⟨R,cap,h1,h2,h3,h4⟩:=h.mem;refine⟨⟨h.ok,(List.suffix_cons t r).trans h.suf,hne,aR h.sg ((But.set w 1 v).below (Nat.le_refl _) (Nat.le_of_lt hlt)),R,cap,h1,h2,BD h3 (But.set w 1 v) h1 hlt,?_⟩,But.set w 1 v⟩;have:=dQ h4 1 v;subst hv;simpa using this
theorem PSt.here {P:Nat} {L l:List Tok} {w:World} (h:PSt P L w l):∃ R cap i,R<w.heap.size∧P<w.heap.size∧i<L.length∧L.length≤cap∧L.length≤601∧(i:Int)=((L.length - l.length:Nat):Int)∧
  w.cell? ⟨P,0,none⟩=some (.slice (some ⟨R,0,none⟩) L.length cap)∧w.cell? ⟨P,1,none⟩=some (.int .i64 (i:Int))∧w.frozen? ⟨P,1,none⟩=false∧
  w.cell? ⟨R,i*4,none⟩=some (.int .i64 (cur l).kind)∧w.cell? ⟨R,i*4+1,none⟩=some (.string (cur l).text)∧w.cell? ⟨R,i*4+2,none⟩=some (.int .i64 (cur l).num)∧w.cell? ⟨R,i*4+3,none⟩=some (.int .i64 (cur l).pl):=by
 have hlt:=h.lt;obtain⟨R,cap,h1,h2,h3,h4⟩:=h.mem;obtain⟨pre,hp⟩:=h.suf;cases l with
 | nil=>exact absurd rfl h.ne
 | cons t r=>
  have hl:L.length - (t::r).length=pre.length:=by rw [← hp];simp
  have hi:pre.length<L.length:=by rw [← hp];simp
  have ht:L[pre.length]=t:=by simp [← hp]
  refine⟨R,cap,pre.length,by omega,hlt,hi,h2,h.ok.few,by rw [hl],?_,?_,bG h4 1,?_⟩
  ·rw [aB h4];rfl
  ·rw [aB h4,hl];rfl
  ·have:=h3 pre.length hi;rw [ht] at this;exact this
theorem cJ {fn:Func} {t:Tmp} (h:fn.results=#[.cell t 26]) {tmps:Array Value} {g:Nat} {w:World} {a b c d e f p:Value} (ht:tmps.getD t undef=.pointer (some ⟨g,0,none⟩)) (hb:dP g 26 #[a,b,c,d,e,f,p] w) :
  (results fn tmps).run Tryz.prog w=.ok (.agg #[a,b,c,d,e,f,p]) w:=by
 rw [Array.getD_eq_getD_getElem?] at ht;have h0:=aB hb 0;have h1:=aB hb 1;have h2:=aB hb 2;have h3:=aB hb 3;have h4:=aB hb 4;have h5:=aB hb 5;have h6:=aB hb 6;simp at h0 h1 h2 h3 h4 h5 h6;simp [results,h,ht,go_sem,asAddr,h0,h1,h2,h3,h4,h5,h6]
theorem NY {fn:Func} {t:Tmp} (h:fn.results=#[.cell t 67]) {tmps:Array Value} {g:Nat} {w:World} {a b c d:Value} (ht:tmps.getD t undef=.pointer (some ⟨g,0,none⟩)) (hb:dP g 67 #[a,b,c,d] w) :
  (results fn tmps).run Tryz.prog w=.ok (.agg #[a,b,c,d]) w:=by
 rw [Array.getD_eq_getD_getElem?] at ht;have h0:=aB hb 0;have h1:=aB hb 1;have h2:=aB hb 2;have h3:=aB hb 3;simp at h0 h1 h2 h3;simp [results,h,ht,go_sem,asAddr,h0,h1,h2,h3]
theorem cU (P:Nat) (L l:List Tok) (w:World) (H:Hid (PSt P L w l)) :
  Calls Tryz.prog 37 #[.pointer (some ⟨P,0,none⟩)] w fun e w'=>e=.returned (cur l).val∧Below w.heap.size w w':=by
 obtain⟨R,cap,i,hR,hP,hi,hcap,h601,hil,d0,d1,_,c0,c1,c2,c3⟩:=H.out.here;have hil':=aA hil;clear hil H;generalize cur l=t at *
 have hi2:(i:Int)<(L.length:Int):=by omega
 go_enter Tryz.func37,Tryz.ntmps37;go_wp2_with fail;go_region;go_wp2_with fail;exact bodyPost_ret (NY rfl rfl (aI w _ _)) rfl ⟨rfl,((Below.refl _ _).alloc (Nat.le_refl _) _).drew⟩
theorem PSt.drew {P:Nat} {L l:List Tok} {w:World} (h:PSt P L w l):PSt P L w.drew l:=h.on (Below.refl _ _).drew
theorem pP (P:Nat) (L l:List Tok) (x:ByteArray) (w:World) (H:Hid (PSt P L w l)) :
  Calls Tryz.prog 64 #[.pointer (some ⟨P,0,none⟩),.string x] w fun e w'=>e=.returned (.bool (bZ l x.data.toList))∧Below w.heap.size w w':=by
 rw [show bZ l x.data.toList=(((cur l).kind==2||(cur l).kind==5)&&(cur l).text.toList==x.toList) by unfold bZ gH;rw [Lib.toList_data,Lib.toList_data]];have HC:=cU P L l w H;clear H;generalize cur l=t at *
 unfold Tok.val at HC;have HC':=aA HC;clear HC;cases h2:(t.kind==2) with
 | true=>
  go_enter Tryz.func64,Tryz.ntmps64;go_wp2_with fail;refine HC'.out.mono ?_;rintro e w1 ⟨rfl,b1⟩;have B1:=aA b1;clear b1 HC';go_wp2_with fail;go_ret;exact⟨rfl,(B1.out.alloc B1.out.size _)⟩
 | false=>
  cases h5:(t.kind==5) with
  | true=>
   go_enter Tryz.func64,Tryz.ntmps64;go_wp2_with fail;refine HC'.out.mono ?_;rintro e w1 ⟨rfl,b1⟩;have B1:=aA b1;clear b1 HC';go_wp2_with fail;go_ret;exact⟨rfl,(B1.out.alloc B1.out.size _)⟩
  | false=>
   go_enter Tryz.func64,Tryz.ntmps64;go_wp2_with fail;refine HC'.out.mono ?_;rintro e w1 ⟨rfl,b1⟩;have B1:=aA b1;clear b1 HC';go_wp2_with fail;go_ret;exact⟨rfl,(B1.out.alloc B1.out.size _)⟩
theorem bF (P:Nat) (L l:List Tok) (x:ByteArray) (w:World) (H:Hid (PSt P L w l)) (hh:bZ l x.data.toList=false) :
  Calls Tryz.prog 97 #[.pointer (some ⟨P,0,none⟩),.string x] w fun e w'=>e=.returned (.bool false)∧Below w.heap.size w w':=by
 go_enter Tryz.func97,Tryz.ntmps97;go_wp2_with fail;refine (pP P L l x _ H).mono ?_;rintro e w1 ⟨he,b1⟩;rw [hh] at he;subst he;have B1:=aA b1;clear b1 H hh;go_wp2_with fail;go_ret;exact⟨rfl,B1.out⟩
theorem cQ (P:Nat) (L:List Tok) (t:Tok) (r:List Tok) (x:ByteArray) (w:World) (H:Hid (PSt P L w (t::r))) (hh:gH t x.data.toList=true) :
  Calls Tryz.prog 97 #[.pointer (some ⟨P,0,none⟩),.string x] w fun e w'=>e=.returned (.bool true)∧PSt P L w' r∧But P w w':=by
 go_enter Tryz.func97,Tryz.ntmps97;go_wp2_with fail;refine (pP P L (t::r) x _ H).mono ?_;rintro e w1 ⟨he,b1⟩;rw [eD,hh] at he;subst he;have B1:=aA b1;have S1:=aA (H.out.on b1);obtain⟨R,cap,i,hR,hP,hi,hcap,h601,hil,d0,d1,dz,c0,c1,c2,c3⟩:=S1.out.here;have HST:=aA (show ∀ v,v=.int .i64 ((i:Int)+1)→∀ w',w'=w1.setCell ⟨P,1,none⟩ v→PSt P L w' r∧But P w1 w' from fun v hv w' hw=>S1.out.step (DL hh) (by
  rw [hv];congr 1;have:(t::r).length≤L.length:=S1.out.suf.length_le;simp only [List.length_cons] at this hil ⊢
  omega) hw)
 clear hil hh b1 H S1;go_wp2_with fail;go_ret;have Z:=HST.out _ rfl _ rfl;exact⟨rfl,Z.1,(But.of B1.out).trans Z.2⟩
end Go.Proofs.YtdnnmjhfidimcaaGreatDoor
