/- What the parser takes. Nodes that the parser makes, in memory. Signs ahead of an expression. -/
import Derived.Test.YtdnnmjhfidimcaaGreatDoorPsMem
namespace Go.Proofs.YtdnnmjhfidimcaaGreatDoor
set_option maxHeartbeats 3200000
open Go.RowKit
def aV:Ending:=.panicked [{ v:=.iface 27 (.int .i64 12),recovered:=false }]
theorem lX (P:Nat) (w:World) :
  Calls Tryz.prog 38 #[.pointer (some ⟨P,0,none⟩)] w fun e w'=>e=aV∧w'=w:=by
 go_enter Tryz.func38,Tryz.ntmps38;go_wp2_with fail;exact⟨rfl,rfl,rfl⟩
theorem iI (P:Nat) (L l:List Tok) (x:ByteArray) (w:World) (H:Hid (PSt P L w l)) (hh:bZ l x.data.toList=false) :
  Calls Tryz.prog 102 #[.pointer (some ⟨P,0,none⟩),.string x] w fun e w'=>e=aV∧Below w.heap.size w w':=by
 go_enter Tryz.func102,Tryz.ntmps102;go_wp2_with fail;refine (bF P L l x _ H hh).mono ?_;rintro e w1 ⟨rfl,b1⟩;have B1:=aA b1;clear b1 H hh;go_wp2_with fail;refine (lX P _).mono ?_;rintro e w2 ⟨rfl,rfl⟩;unfold aV;go_wp2_with fail;exact⟨rfl,rfl,B1.out⟩
theorem dI (P:Nat) (L:List Tok) (t:Tok) (r:List Tok) (x:ByteArray) (w:World) (H:Hid (PSt P L w (t::r))) (hh:gH t x.data.toList=true) :
  Calls Tryz.prog 102 #[.pointer (some ⟨P,0,none⟩),.string x] w fun e w'=>e=.returned (.tuple #[])∧PSt P L w' r∧But P w w':=by
 go_enter Tryz.func102,Tryz.ntmps102;go_wp2_with fail;refine (cQ P L t r x _ H hh).mono ?_;rintro e w1 ⟨rfl,b1,b2⟩;have B1:=aA b1;have B2:=aA b2;clear b1 b2 H hh;go_wp2_with fail;go_end0
 exact⟨rfl,B1.out,B2.out⟩
def eS (ws:List ByteArray) (l:List Tok):Option ByteArray:=ws.find? fun x=>bZ l x.data.toList
theorem qG (P:Nat) (L l:List Tok) (ws:List ByteArray) (B:Nat) (v:Value) (w:World) (hB:B≤w.heap.size) (H:Hid (PSt P L w l)) (hV:Hid (cA B v ws w)) (hws:ws.length≤1000) (hh:eS ws l=none) :
  Calls Tryz.prog 69 #[.pointer (some ⟨P,0,none⟩),v] w fun e w'=>e=.returned (.string ⟨#[]⟩)∧Below w.heap.size w w':=by
 have hn:∀ x∈ws,bZ l x.data.toList=false:=by
  intro x hx;have:=List.find?_eq_none.1 hh x hx;simpa using this
 obtain⟨ao,cap,rfl,hss⟩:=fS hV.out;have SS:=aA hss;have HN:=aA hn;clear hV hss hn hh;go_enter Tryz.func69,Tryz.ntmps69;go_wp2_with fail;go_loopw [9] (fun i wr=>∃ j:Nat,j≤ws.length∧i=.int .i64 j∧Below w.heap.size w wr) (fun i _=>ws.length - (intOf i).toNat)
 case atStart=>exact⟨0,Nat.zero_le _,rfl,Below.refl _ _⟩
 case round=>
  obtain⟨j,hj,rfl,hb⟩:=hrel;by_cases hjl:j<ws.length
  ·obtain⟨d,dof,rfl,hdB,hsa⟩:=SS.out.resolve_left (fun h=>by rw [h] at hjl;cases hjl);have hnm:=cN (hb.mono hB) hdB (hsa j hjl);have hno:=HN.out ws[j] (List.getElem_mem hjl);generalize ws[j]=x at *
   have S1:=aA (H.out.on hb);have BB:=aA hb;have HO:=aA hno;clear hsa hb SS H HN hno;go_wp2_with fail;refine (bF P L l x _ S1 HO.out).mono ?_;rintro e w1 ⟨rfl,b1⟩;have B1:=aA (bB BB.out b1);clear b1 BB S1 HO hnm;go_wp2_with fail;go_roundw
   case rel=>exact⟨j+1,by omega,by go_num,B1.out⟩
   case measure=>simp [intOf];omega
  ·have BB:=aA hb;clear hb SS H HN;go_wp2_with fail;go_ret;exact⟨rfl,BB.out⟩
theorem dF (P:Nat) (L:List Tok) (t:Tok) (r:List Tok) (ws:List ByteArray) (x:ByteArray) (B:Nat) (v:Value) (w:World) (hB:B≤w.heap.size) (H:Hid (PSt P L w (t::r))) (hV:Hid (cA B v ws w)) (hws:ws.length≤1000) (hh:eS ws (t::r)=some x) :
  Calls Tryz.prog 69 #[.pointer (some ⟨P,0,none⟩),v] w fun e w'=>e=.returned (.string x)∧PSt P L w' r∧But P w w':=by
 obtain⟨k,hk,hkx,hkn⟩:∃ (k:Nat) (hk:k<ws.length),ws[k]=x∧∀ (i:Nat) (hi:i<k),gH t (ws[i]'(by omega)).data.toList=false:=by
  unfold eS at hh;obtain⟨h1,us,bs,e,h2⟩:=List.find?_eq_some_iff_append.1 hh;subst e;refine⟨us.length,by simp,by simp,fun i hi=>?_⟩;have:=h2 us[i] (List.getElem_mem hi);simp only [List.getElem_append_left hi];simpa [eD] using this
 have hx:gH t x.data.toList=true:=by
  have:=List.find?_some hh;simpa [eD] using this
 obtain⟨ao,cap,rfl,hss⟩:=fS hV.out;obtain⟨d,dof,rfl,hdB,hsa⟩:=hss.resolve_left (fun h=>by rw [h] at hk;cases hk);have SA:=aA hsa;have HX:=aA hx;have HKX:=aA hkx;have HKN:=aA hkn;clear hV hss hh hsa hx hkx hkn;go_enter Tryz.func69,Tryz.ntmps69;go_wp2_with fail;go_loopw [9] (fun i wr=>∃ j:Nat,j≤k∧i=.int .i64 j∧Below w.heap.size w wr) (fun i _=>ws.length - (intOf i).toNat)
 case atStart=>exact⟨0,Nat.zero_le _,rfl,Below.refl _ _⟩
 case round=>
  obtain⟨j,hj,rfl,hb⟩:=hrel;have hjl:j<ws.length:=by omega
  have hnm:=cN (hb.mono hB) hdB (SA.out j hjl);have S1:=aA (H.out.on hb);have BB:=aA hb;rcases Nat.lt_or_ge j k with hjk | hjk
  ·have HO:=aA (show bZ (t::r) ws[j].data.toList=false from HKN.out j hjk);generalize ws[j]=y at *
   clear hb SA H HKN HX HKX;go_wp2_with fail;refine (bF P L (t::r) y _ S1 HO.out).mono ?_;rintro e w1 ⟨rfl,b1⟩;have B1:=aA (bB BB.out b1);clear b1 BB S1 HO hnm;go_wp2_with fail;go_roundw
   case rel=>exact⟨j+1,by omega,by go_num,B1.out⟩
   case measure=>simp [intOf];omega
  ·have hjk':j=k:=by omega
   subst hjk';rw [HKX.out] at hnm;clear hb SA H HKN HKX;go_wp2_with fail;refine (cQ P L t r x _ S1 HX.out).mono ?_;rintro e w1 ⟨rfl,b1,b2⟩;have B1:=aA b1;have B2:=aA ((But.of BB.out).trans b2);clear b1 b2 BB S1 HX hnm;go_wp2_with fail;go_ret;exact⟨rfl,B1.out,B2.out⟩
def zJ (g:Nat) (ks:List Int) (w:World):Prop:=∀ (i:Nat) (h:i<ks.length),w.cell? ⟨g,i,none⟩=some (.int .i64 ks[i])
theorem Ik (P:Nat) (L l:List Tok) (ks:List Int) (g:Nat) (w:World) (hg:g<w.heap.size) (H:Hid (PSt P L w l)) (hV:Hid (zJ g ks w)) (hks:ks.length≤1000) (hh:(cur l).kind ∉ ks) :
  Calls Tryz.prog 171 #[.pointer (some ⟨P,0,none⟩),.slice (some ⟨g,0,none⟩) ks.length ks.length] w fun e w'=>e=aV∧Below w.heap.size w w':=by
 have HC:=aA (cU P L l w H);have HN:=aA hh;clear H hh;generalize cur l=t at *
 unfold Tok.val at HC;go_enter Tryz.func171,Tryz.ntmps171;go_wp2_with fail;refine HC.out.mono ?_;rintro e w1 ⟨rfl,b1⟩;have hs1:=b1.size;have V1:=aA (show zJ g ks w1 from fun i hi=>cN b1 hg (hV.out i hi));have B1:=aA b1;clear b1 HC hV;go_wp2_with fail;go_loopw [12] (fun i wr=>∃ j:Nat,j≤ks.length∧i=.int .i64 j∧wr=w1.alloc (.cells #[.int .i64 t.kind,.string t.text,.int .i64 t.num,.int .i64 t.pl] 67)) (fun i _=>ks.length - (intOf i).toNat)
 case atStart=>exact⟨0,Nat.zero_le _,rfl,rfl⟩
 case round=>
  obtain⟨j,hj,rfl,rfl⟩:=hrel;by_cases hjl:j<ks.length
  ·have hc:=V1.out j hjl;have hne:(t.kind==ks[j])=false:=by
    rw [beq_eq_false_iff_ne];intro e;exact HN.out (by rw [e];exact List.getElem_mem hjl)
   generalize ks[j]=kj at *
   have hg1:g<w1.heap.size:=by omega
   clear V1 HN;go_wp2_with fail;go_roundw
   case rel=>exact⟨j+1,by omega,by go_num,trivial⟩
   case measure=>simp [intOf];omega
  ·clear V1 HN;go_wp2_with fail;refine (lX P _).mono ?_;rintro e w2 ⟨rfl,rfl⟩;unfold aV;go_wp2_with fail;exact⟨rfl,rfl,B1.out.alloc B1.out.size _⟩
theorem DM (P:Nat) (L:List Tok) (t:Tok) (r:List Tok) (ks:List Int) (g:Nat) (w:World) (hg:g<w.heap.size) (H:Hid (PSt P L w (t::r))) (hV:Hid (zJ g ks w)) (hks:ks.length≤1000) (h6:t.kind≠6) (hh:t.kind∈ks) :
  Calls Tryz.prog 171 #[.pointer (some ⟨P,0,none⟩),.slice (some ⟨g,0,none⟩) ks.length ks.length] w fun e w'=>e=.returned (.string t.text)∧PSt P L w' r∧But P w w':=by
 have HC:=aA (cU P L (t::r) w H);have HN:=aA hh;have H6:=aA h6;clear hh h6;unfold Tok.val cur at HC;simp only [List.headD_cons] at HC;go_enter Tryz.func171,Tryz.ntmps171;go_wp2_with fail;refine HC.out.mono ?_;rintro e w1 ⟨rfl,b1⟩;have hs1:=b1.size;have V1:=aA (show zJ g ks w1 from fun i hi=>cN b1 hg (hV.out i hi));have B1:=aA b1;have S1:=aA (H.out.on b1);clear b1 HC hV H;go_wp2_with fail;go_loopw [12] (fun i wr=>∃ j:Nat,j≤ks.length∧i=.int .i64 j∧wr=w1.alloc (.cells #[.int .i64 t.kind,.string t.text,.int .i64 t.num,.int .i64 t.pl] 67)∧Hid (∃ (k:Nat) (hk:k<ks.length),j≤k∧ks[k]=t.kind)) (fun i _=>ks.length - (intOf i).toNat)
 case atStart=>
  obtain⟨k,hk,e⟩:=List.getElem_of_mem HN.out;exact⟨0,Nat.zero_le _,rfl,rfl,k,hk,Nat.zero_le _,e⟩
 case round=>
  obtain⟨j,hj,rfl,rfl,hk⟩:=hrel;have hjl:j<ks.length:=by obtain⟨k,hk,h1,h2⟩:=hk.out;omega
  have hc:=V1.out j hjl;have hg1:g<w1.heap.size:=by omega
  by_cases hne:t.kind=ks[j]
  ·rw [← hne] at hc;obtain⟨R,cap,i,hR,hP,hi,hcap,h601,hil,d0,d1,dz,c0,c1,c2,c3⟩:=S1.out.here;have HST:=aA (show ∀ v,v=.int .i64 ((i:Int)+1)→∀ w',w'=w1.setCell ⟨P,1,none⟩ v→PSt P L w' r∧But P w1 w' from fun v hv w' hw=>S1.out.step H6.out (by
    rw [hv];congr 1;have:(t::r).length≤L.length:=S1.out.suf.length_le;simp only [List.length_cons] at this hil ⊢
    omega) hw)
   have hP1:P<w1.heap.size:=S1.out.lt;have hne':(t.kind==t.kind)=true:=by simp
   clear hil V1 HN hk H6 S1 hne;go_wp2_with fail;go_ret;have Z:=HST.out _ rfl _ rfl;have A2:=(Below.refl _ (w1.setCell ⟨P,1,none⟩ (.int .i64 ((i:Int)+1)))).alloc (Nat.le_refl _) (.cells #[.int .i64 t.kind,.string t.text,.int .i64 t.num,.int .i64 t.pl] 67);exact⟨rfl,Z.1.on A2,((But.of B1.out).trans Z.2).trans (But.of A2)⟩
  ·have hne':(t.kind==ks[j])=false:=beq_eq_false_iff_ne.2 hne;have HK2:=aA (show ∃ (k:Nat) (hk:k<ks.length),j+1≤k∧ks[k]=t.kind by
    obtain⟨k,hk,h1,h2⟩:=hk.out;refine⟨k,hk,?_,h2⟩;rcases Nat.lt_or_ge j k with h | h
    ·exact h
    ·have:j=k:=by omega
     subst this;exact absurd h2.symm hne)
   clear hne V1 HN hk H6 S1;generalize ks[j]=kj at *
   go_wp2_with fail;go_roundw
   case rel=>exact⟨j+1,by omega,by go_num,trivial,HK2.out⟩
   case measure=>simp [intOf];omega
theorem uZ (w:World) (ks:List Int) (T:TypeId):zJ w.heap.size ks (w.alloc (.cells (ks.map fun k=>Value.int .i64 k).toArray T)):=by
 intro i hi;rw [aB (aI w T _)];simp [hi]
theorem DN {key:Bool} {l:List Tok} : qC key l=decide ((cur l).kind∈(if key then [1,2] else [1]:List Int)):=by
 unfold qC;rw [Bool.eq_iff_iff];cases key<;>simp
theorem Ct (P:Nat) (L l:List Tok) (w:World) (H:Hid (PSt P L w l)) (hh:qC false l=false) :
  Calls Tryz.prog 157 #[.pointer (some ⟨P,0,none⟩)] w fun e w'=>e=aV∧Below w.heap.size w w':=by
 have A:=aA ((Below.refl _ w).alloc (Nat.le_refl _) (.cells #[.int .i64 1] 3));have S:=aA (H.out.on A.out);have V:=aA (uZ w [1] 3);rw [DN,decide_eq_false_iff_not] at hh;have HH:=aA hh;clear H hh;go_enter Tryz.func157,Tryz.ntmps157;go_wp2_with fail;refine (Ik P L l [1] _ _ (by simp) S V (by simp) HH.out).mono ?_;rintro e w2 ⟨rfl,b⟩;have B:=aA (aH A.out (by simp) b);clear b A S V HH;unfold aV;go_wp2_with fail;exact⟨rfl,rfl,B.out⟩
theorem rM (P:Nat) (L:List Tok) (t:Tok) (r:List Tok) (w:World) (H:Hid (PSt P L w (t::r))) (hh:t.kind=1) :
  Calls Tryz.prog 157 #[.pointer (some ⟨P,0,none⟩)] w fun e w'=>e=.returned (.string t.text)∧PSt P L w' r∧But P w w':=by
 have A:=aA ((Below.refl _ w).alloc (Nat.le_refl _) (.cells #[.int .i64 1] 3));have S:=aA (H.out.on A.out);have V:=aA (uZ w [1] 3);have HH:=aA hh;clear H hh;go_enter Tryz.func157,Tryz.ntmps157;go_wp2_with fail;refine (DM P L t r [1] _ _ (by simp) S V (by simp) (by rw [HH.out];decide) (by rw [HH.out];simp)).mono ?_;rintro e w2 ⟨rfl,b,c⟩;have B:=aA b;have C:=aA ((But.of A.out).trans c);clear b c A S V HH;go_wp2_with fail;go_ret;exact⟨rfl,B.out,C.out⟩
theorem Cu (P:Nat) (L l:List Tok) (w:World) (H:Hid (PSt P L w l)) (hh:qC true l=false) :
  Calls Tryz.prog 186 #[.pointer (some ⟨P,0,none⟩)] w fun e w'=>e=aV∧Below w.heap.size w w':=by
 have A:=aA ((Below.refl _ w).alloc (Nat.le_refl _) (.cells #[.int .i64 1,.int .i64 2] 3));have S:=aA (H.out.on A.out);have V:=aA (uZ w [1,2] 3);rw [DN,decide_eq_false_iff_not] at hh;have HH:=aA hh;clear H hh;go_enter Tryz.func186,Tryz.ntmps186;go_wp2_with fail;refine (Ik P L l [1,2] _ _ (by simp) S V (by simp) HH.out).mono ?_;rintro e w2 ⟨rfl,b⟩;have B:=aA (aH A.out (by simp) b);clear b A S V HH;unfold aV;go_wp2_with fail;exact⟨rfl,rfl,B.out⟩
theorem rN (P:Nat) (L:List Tok) (t:Tok) (r:List Tok) (w:World) (H:Hid (PSt P L w (t::r))) (hh:t.kind=1∨t.kind=2) :
  Calls Tryz.prog 186 #[.pointer (some ⟨P,0,none⟩)] w fun e w'=>e=.returned (.string t.text)∧PSt P L w' r∧But P w w':=by
 have A:=aA ((Below.refl _ w).alloc (Nat.le_refl _) (.cells #[.int .i64 1,.int .i64 2] 3));have S:=aA (H.out.on A.out);have V:=aA (uZ w [1,2] 3);have HH:=aA hh;clear H hh;go_enter Tryz.func186,Tryz.ntmps186;go_wp2_with fail;refine (DM P L t r [1,2] _ _ (by simp) S V (by simp) (by have:=HH.out;omega) (by have:=HH.out;simp;omega)).mono ?_;rintro e w2 ⟨rfl,b,c⟩;have B:=aA b;have C:=aA ((But.of A.out).trans c);clear b c A S V HH;go_wp2_with fail;go_ret;exact⟨rfl,B.out,C.out⟩
theorem PSt.last {P:Nat} {L l pre:List Tok} {u:Tok} {w:World} (h:PSt P L w l) (hp:pre++u::l=L):∃ R cap,R<w.heap.size∧P<w.heap.size∧L.length≤cap∧L.length≤601∧pre.length+1<L.length∧
  w.cell? ⟨P,0,none⟩=some (.slice (some ⟨R,0,none⟩) L.length cap)∧w.cell? ⟨P,1,none⟩=some (.int .i64 ((pre.length+1:Nat):Int))∧w.cell? ⟨R,pre.length*4+1,none⟩=some (.string u.text):=by
 have hlt:=h.lt;obtain⟨R,cap,h1,h2,h3,h4⟩:=h.mem;have hl:L.length - l.length=pre.length+1:=by rw [← hp];simp;omega
 have hi:pre.length<L.length:=by rw [← hp];simp
 have ht:L[pre.length]=u:=by simp [← hp]
 have hne:0<l.length:=List.length_pos_iff.2 h.ne;refine⟨R,cap,by omega,hlt,h2,h.ok.few,by rw [← hp];simp;omega,?_,?_,?_⟩
 ·rw [aB h4];rfl
 ·rw [aB h4,hl];rfl
 ·have:=(h3 pre.length hi).2.1;rw [ht] at this;exact this
theorem rO (P:Nat) (L l pre:List Tok) (u:Tok) (w:World) (H:Hid (PSt P L w l)) (hp:pre++u::l=L) :
  Calls Tryz.prog 160 #[.pointer (some ⟨P,0,none⟩)] w fun e w'=>e=.returned (.bool (u.text.data.toList==[41]))∧Below w.heap.size w w':=by
 obtain⟨R,cap,hR,hP,hcap,h601,hi,d0,d1,c1⟩:=H.out.last hp;have HI:=aA (show (u.text.data.toList==[41])=(u.text.toList==[41]) by rw [Lib.toList_data]);rw [HI.out];clear H hp HI;generalize pre.length=i at *
 generalize u.text=s at *
 go_enter Tryz.func160,Tryz.ntmps160;go_wp2_with fail;go_region;go_wp2_with fail;go_ret;exact⟨rfl,(Below.refl _ _).drew⟩
def xG (ok:Nat→Prop) (v:Value) (l:List ByteArray) (w:World):Prop:=
 (∃ ao cap,v=.slice ao 0 cap∧l=[])∨∃ b off cap,v=.slice (some ⟨b,off,none⟩) l.length cap∧ok b∧Fl b off l w∧l.length≤cap
def Il (k:Int) (n:Nat) (kv:Value):Prop:=k=5∨k=13∨k=14→∃ ao,kv=.slice ao n n
mutual
def wG (ok:Nat→Prop) (w:World):Nd→Value→Value→Prop
 | .mk k _ _ _ ns ks _,nv,kv=>Il k ks.length kv∧xG ok nv ns w∧((∃ ao cap,kv=.slice ao 0 cap∧ks=[])∨∃ b off cap,kv=.slice (some ⟨b,off,none⟩) ks.length cap∧ok b∧oB ok w b ks off∧ks.length≤cap)
def oB (ok:Nat→Prop) (w:World) (b:Nat):List Nd→Nat→Prop
 | [],_=>True
 | .mk k op n s ns ks p::r,off=>(∃ nv kv,bK b off k op n s nv kv p w∧wG ok w (.mk k op n s ns ks p) nv kv)∧oB ok w b r (off+7)
end
def xH (ok:Nat→Prop) (w:World) (kv:Value) (ks:List Nd):Prop:=
 (∃ ao cap,kv=.slice ao 0 cap∧ks=[])∨∃ b off cap,kv=.slice (some ⟨b,off,none⟩) ks.length cap∧ok b∧oB ok w b ks off∧ks.length≤cap
theorem ndW_mk {ok:Nat→Prop} {w:World} {k o n:Int} {s:ByteArray} {ns:List ByteArray} {ks:List Nd} {p:Int} {nv kv:Value} : wG ok w (.mk k o n s ns ks p) nv kv↔Il k ks.length kv∧xG ok nv ns w∧xH ok w kv ks:=by
 rw [wG];rfl
theorem fQ {a c:World} {g i:Nat} {v:Value} (h:c.heap[g]? = a.heap[g]?) (hc:a.cell? ⟨g,i,none⟩=some v):c.cell? ⟨g,i,none⟩=some v:=(World.cell?_of_block (w:=a) h).trans hc
theorem qH {ok ok':Nat→Prop} {a c:World} (hk:∀ b,ok b→ok' b∧c.heap[b]? = a.heap[b]?) {v:Value} {l:List ByteArray} (h:xG ok v l a):xG ok' v l c:=by
 rcases h with h | ⟨b,off,cap,h1,h2,h3,h4⟩
 ·exact .inl h
 ·exact .inr ⟨b,off,cap,h1,(hk b h2).1,fun i hi=>fQ (hk b h2).2 (h3 i hi),h4⟩
mutual
theorem gU {ok ok':Nat→Prop} {a c:World} (hk:∀ b,ok b→ok' b∧c.heap[b]? = a.heap[b]?):∀ (t:Nd) (nv kv:Value),wG ok a t nv kv→wG ok' c t nv kv
 | .mk _ _ _ _ ns ks _,nv,kv,h=>by
  rw [wG] at h ⊢;refine⟨h.1,qH hk h.2.1,?_⟩;rcases h.2.2 with h2 | ⟨b,off,cap,e,hb,h3,h4⟩
  ·exact .inl h2
  ·exact .inr ⟨b,off,cap,e,(hk b hb).1,wH hk hb ks off h3,h4⟩
theorem wH {ok ok':Nat→Prop} {a c:World} (hk:∀ b,ok b→ok' b∧c.heap[b]? = a.heap[b]?) {b:Nat} (hb:ok b):∀ (ks:List Nd) (off:Nat),oB ok a b ks off→oB ok' c b ks off
 | [],_,_=>by rw [oB];trivial
 | .mk k op n s ns ks p::r,off,h=>by
  rw [oB] at h ⊢;obtain⟨⟨nv,kv,h1,h2⟩,h3⟩:=h;obtain⟨x0,x1,x2,x3,x4,x5,x6⟩:=h1;have e:=(hk b hb).2;exact⟨⟨nv,kv,⟨fQ e x0,fQ e x1,fQ e x2,fQ e x3,fQ e x4,fQ e x5,fQ e x6⟩,gU hk _ _ _ h2⟩,wH hk hb r _ h3⟩
end
theorem iD {ok ok':Nat→Prop} {a c:World} (hk:∀ b,ok b→ok' b∧c.heap[b]? = a.heap[b]?) {kv:Value} {ks:List Nd} (h:xH ok a kv ks):xH ok' c kv ks:=by
 rcases h with h2 | ⟨b,off,cap,e,hb,h3,h4⟩
 ·exact .inl h2
 ·exact .inr ⟨b,off,cap,e,(hk b hb).1,wH hk hb ks off h3,h4⟩
mutual
theorem LN {ok:Nat→Prop} {w:World} {B:Nat} (hk:∀ b,ok b→b<B):∀ (t:Nd) (nv kv:Value),wG ok w t nv kv→lB B w t nv kv
 | .mk _ _ _ _ ns ks _,nv,kv,h=>by
  rw [wG] at h;rw [lB];refine⟨?_,?_⟩
  ·rcases h.2.1 with h1 | ⟨b,off,cap,e,hb,h3,h4⟩
   ·exact .inl h1
   ·exact .inr ⟨b,off,cap,e,hk b hb,h3,h4⟩
  ·rcases h.2.2 with h2 | ⟨b,off,cap,e,hb,h3,h4⟩
   ·exact .inl h2
   ·exact .inr ⟨b,off,cap,e,hk b hb,Im hk ks off h3,h4⟩
theorem Im {ok:Nat→Prop} {w:World} {B:Nat} (hk:∀ b,ok b→b<B) {b:Nat} : ∀ (ks:List Nd) (off:Nat),oB ok w b ks off→jZ B w b ks off
 | [],_,_=>by rw [jZ];trivial
 | .mk k op n s ns ks p::r,off,h=>by
  rw [oB] at h;rw [jZ];obtain⟨⟨nv,kv,h1,h2⟩,h3⟩:=h;exact⟨⟨nv,kv,h1,LN hk _ _ _ h2⟩,Im hk r _ h3⟩
end
def Qt (lo:Nat) (w:World) (b:Nat):Prop:=lo≤b∧b<w.heap.size
def tP (lo:Nat) (w:World) (t:Nd) (nv kv:Value):Prop:=wG (Qt lo w) w t nv kv
def FL (lo:Nat) (w:World) (kv:Value) (ks:List Nd):Prop:=xH (Qt lo w) w kv ks
def JL (lo:Nat) (w:World) (nv:Value) (ns:List ByteArray):Prop:=xG (Qt lo w) nv ns w
structure LO (lo:Nat) (a c:World):Prop where
 size:a.heap.size≤c.heap.size
 block:∀ k,lo≤k→k<a.heap.size→c.heap[k]? = a.heap[k]?
theorem lG {P lo:Nat} {a c:World} (h:But P a c) (hp:P<lo):LO lo a c:=⟨h.size,fun k h1 h2=>h.block k h2 (by omega)⟩
theorem bO {lo:Nat} {a c:World} (h:Below a.heap.size a c):LO lo a c:=⟨h.size,fun k _ h2=>h.block k h2⟩
theorem pE {lo g i:Nat} {a:World} {v:Value} (h:g<lo):LO lo a (a.setCell ⟨g,i,none⟩ v):=⟨by simp [World.setCell],fun k h1 _=>Below.heap_setCell _ _ _ _ (by simp;omega)⟩
theorem kN {lo:Nat} {a b c:World} (h:LO lo a b) (k:LO lo b c):LO lo a c:=⟨Nat.le_trans h.size k.size,fun i h1 h2=>(k.block i h1 (Nat.lt_of_lt_of_le h2 h.size)).trans (h.block i h1 h2)⟩
theorem vA {lo lo':Nat} {a c:World} (h:LO lo a c) (hl:lo'≤lo):∀ b,Qt lo a b→Qt lo' c b∧c.heap[b]? = a.heap[b]?:=fun b hb=>⟨⟨by have:=hb.1;omega,Nat.lt_of_lt_of_le hb.2 h.size⟩,h.block b hb.1 hb.2⟩
theorem aY {lo:Nat} {a c:World} (h:LO lo a c) {t:Nd} {nv kv:Value} (hn:tP lo a t nv kv):tP lo c t nv kv:=gU (vA h (Nat.le_refl _)) _ _ _ hn
theorem oC {lo:Nat} {a c:World} (h:LO lo a c) {kv:Value} {ks:List Nd} (hn:FL lo a kv ks):FL lo c kv ks:=iD (vA h (Nat.le_refl _)) hn
theorem bE {lo lo':Nat} {a:World} (h:lo'≤lo) {t:Nd} {nv kv:Value} (hn:tP lo a t nv kv):tP lo' a t nv kv:=gU (vA ⟨Nat.le_refl _,fun _ _ _=>rfl⟩ h) _ _ _ hn
theorem gR {lo lo':Nat} {a:World} (h:lo'≤lo) {kv:Value} {ks:List Nd} (hn:FL lo a kv ks):FL lo' a kv ks:=iD (vA ⟨Nat.le_refl _,fun _ _ _=>rfl⟩ h) hn
theorem nT {lo:Nat} {w:World} {t:Nd} {nv kv:Value} (h:tP lo w t nv kv):lB w.heap.size w t nv kv:=LN (fun _ hb=>hb.2) _ _ _ h
theorem In {lo:Nat} {w:World} {k o n:Int} {s:ByteArray} {ns:List ByteArray} {ks:List Nd} {p:Int} {nv kv:Value} (h:tP lo w (.mk k o n s ns ks p) nv kv):JL lo w nv ns∧FL lo w kv ks:=(ndW_mk.1 h).2
theorem eN {lo:Nat} {w:World} {k o n:Int} {s:ByteArray} {ns:List ByteArray} {ks:List Nd} {p:Int} {nv kv:Value} (h:JL lo w nv ns∧FL lo w kv ks) (ht:Il k ks.length kv:=by first | exact fun h=>absurd h (by decide) | exact fun _=>⟨_,rfl⟩):tP lo w (.mk k o n s ns ks p) nv kv:=ndW_mk.2 ⟨ht,h⟩
theorem gF {lo:Nat} {w:World} {ao:Option Addr} {cap:Nat} : JL lo w (.slice ao 0 cap) []:=.inl ⟨_,_,rfl,rfl⟩
theorem qI {lo:Nat} {w:World} {ao:Option Addr} {cap:Nat} : FL lo w (.slice ao 0 cap) []:=.inl ⟨_,_,rfl,rfl⟩
theorem aP {lo:Nat} {w:World} {t:Nd} {nv kv:Value} (h:tP lo w t nv kv):∃ a1 c1 a2 c2,nv=.slice a1 t.names.length c1∧kv=.slice a2 t.kids.length c2:=bY (nT h)
def fR (t:Nd) (nv kv:Value):Value:=.agg #[.int .i64 t.kind,.int .i64 t.op,.int .i64 t.num,.string t.str,nv,kv,.int .i64 t.pl]
def fL (t:Nd) (nv kv:Value):Array Value:=#[.int .i64 t.kind,.int .i64 t.op,.int .i64 t.num,.string t.str,nv,kv,.int .i64 t.pl]
theorem qJ {ok:Nat→Prop} {w:World} {g:Nat} {T:TypeId} {cs:Array Value} {off:Nat} {x:Nd} {nv kv:Value} (hb:dP g T cs w) (hx:wG ok w x nv kv) (r:List Nd) (hr:oB ok w g r (off+7))
  (h0:cs[off]? = some (.int .i64 x.kind)) (h1:cs[off+1]? = some (.int .i64 x.op)) (h2:cs[off+2]? = some (.int .i64 x.num)) (h3:cs[off+3]? = some (.string x.str)) (h4:cs[off+4]? = some nv) (h5:cs[off+5]? = some kv) (h6:cs[off+6]? = some (.int .i64 x.pl)) :
  oB ok w g (x::r) off:=by
 obtain⟨k,o,n,s,ns,ks,p⟩:=x;rw [oB];exact⟨⟨nv,kv,⟨(aB hb _).trans h0,(aB hb _).trans h1,(aB hb _).trans h2,(aB hb _).trans h3,(aB hb _).trans h4,(aB hb _).trans h5,(aB hb _).trans h6⟩,hx⟩,hr⟩
theorem LP {ok:Nat→Prop} {w:World} {g:Nat} {T:TypeId} {x:Nd} {nv kv:Value} (hg:ok g) (hb:dP g T (fL x nv kv) w) (hx:wG ok w x nv kv):xH ok w (.slice (some ⟨g,0,none⟩) 1 1) [x]:=
 .inr ⟨g,0,1,rfl,hg,qJ hb hx [] (by rw [oB];trivial) rfl rfl rfl rfl rfl rfl rfl,Nat.le_refl _⟩
theorem wI {ok:Nat→Prop} {w:World} {g:Nat} {T:TypeId} {x y:Nd} {nv kv nv' kv':Value} (hg:ok g) (hb:dP g T (fL x nv kv++fL y nv' kv') w) (hx:wG ok w x nv kv) (hy:wG ok w y nv' kv'):xH ok w (.slice (some ⟨g,0,none⟩) 2 2) [x,y]:=
 .inr ⟨g,0,2,rfl,hg,qJ hb hx [y] (qJ hb hy [] (by rw [oB];trivial) rfl rfl rfl rfl rfl rfl rfl) rfl rfl rfl rfl rfl rfl rfl,Nat.le_refl _⟩
theorem LQ {ok:Nat→Prop} {w:World} {g:Nat} {T:TypeId} {x y z:Nd} {nv kv nv' kv' nv'' kv'':Value} (hg:ok g) (hb:dP g T (fL x nv kv++fL y nv' kv'++fL z nv'' kv'') w) (hx:wG ok w x nv kv) (hy:wG ok w y nv' kv') (hz:wG ok w z nv'' kv''):xH ok w (.slice (some ⟨g,0,none⟩) 3 3) [x,y,z]:=by
 have h3:oB ok w g [z] 14:=qJ hb hz [] (by rw [oB];trivial) (by simp [fL]) (by simp [fL]) (by simp [fL]) (by simp [fL]) (by simp [fL]) (by simp [fL]) (by simp [fL]);have h2:oB ok w g [y,z] 7:=qJ hb hy [z] h3 (by simp [fL]) (by simp [fL]) (by simp [fL]) (by simp [fL]) (by simp [fL]) (by simp [fL]) (by simp [fL]);have h1:oB ok w g [x,y,z] 0:=qJ hb hx [y,z] h2 (by simp [fL]) (by simp [fL]) (by simp [fL]) (by simp [fL]) (by simp [fL]) (by simp [fL]) (by simp [fL]);exact .inr ⟨g,0,3,rfl,hg,h1,Nat.le_refl _⟩
def put7w (w:World) (g:Nat) (a b c d e f p:Value):World:=((((((w.setCell ⟨g,0,none⟩ a).setCell ⟨g,1,none⟩ b).setCell ⟨g,2,none⟩ c).setCell ⟨g,3,none⟩ d).setCell ⟨g,4,none⟩ e).setCell ⟨g,5,none⟩ f).setCell ⟨g,6,none⟩ p
theorem oL {w:World} {g:Nat} {T:TypeId} {a' b' c' d' e' f' p':Value} (h:dP g T #[a',b',c',d',e',f',p'] w) (a b c d e f p:Value):dP g T #[a,b,c,d,e,f,p] (put7w w g a b c d e f p):=by
 have h1:=dQ (dQ (dQ (dQ (dQ (dQ (dQ h 0 a) 1 b) 2 c) 3 d) 4 e) 5 f) 6 p;unfold put7w;simpa using h1
theorem cV {lo g:Nat} (w:World) (h:g<lo) (a b c d e f p:Value):LO lo w (put7w w g a b c d e f p):=
 kN (kN (kN (kN (kN (kN (pE h) (pE h)) (pE h)) (pE h)) (pE h)) (pE h)) (pE h)
theorem But.setNew {P:Nat} {a c:World} (h:But P a c) {g i:Nat} (hg:a.heap.size≤g) (v:Value):But P a (c.setCell ⟨g,i,none⟩ v):=
 ⟨h.os,h.tape,h.output,by simpa [World.setCell] using h.size,fun k h1 h2=>(Below.heap_setCell _ _ _ _ (by simp;omega)).trans (h.block k h1 h2)⟩
theorem LR {P:Nat} {a c:World} (h:But P a c) {g:Nat} (hg:a.heap.size≤g) (x b d y e f p:Value):But P a (put7w c g x b d y e f p):=
 ((((((h.setNew hg _).setNew hg _).setNew hg _).setNew hg _).setNew hg _).setNew hg _).setNew hg _
theorem gL {P:Nat} {L l:List Tok} {w:World} (h:PSt P L w l) {g i:Nat} (hg:P<g) (v:Value):PSt P L (w.setCell ⟨g,i,none⟩ v) l:=by
 have hlt:=h.lt;obtain⟨R,cap,h1,h2,h3,h4⟩:=h.mem;refine⟨h.ok,h.suf,h.ne,aR h.sg ((Below.refl P w).setCell (p:=⟨g,i,none⟩) (Nat.le_of_lt hg) v),R,cap,h1,h2,?_,(Below.heap_setCell _ _ _ _ (by simp;omega)).trans h4⟩;intro j hj;obtain⟨x1,x2,x3,x4⟩:=h3 j hj;have e:(w.setCell ⟨g,i,none⟩ v).heap[R]? = w.heap[R]?:=Below.heap_setCell _ _ _ _ (by simp;omega);exact⟨fQ e x1,fQ e x2,fQ e x3,fQ e x4⟩
theorem LS {P:Nat} {L l:List Tok} {w:World} (h:PSt P L w l) {g:Nat} (hg:P<g) (a b c d e f p:Value):PSt P L (put7w w g a b c d e f p) l:=
 gL (gL (gL (gL (gL (gL (gL h hg a) hg b) hg c) hg d) hg e) hg f) hg p
/-! the same for any choice of blocks -/
def FM (ok:Nat→Prop) (w:World) (b:Nat):Prop:=ok b∧b<w.heap.size
def rI (ok:Nat→Prop) (w:World) (t:Nd) (nv kv:Value):Prop:=wG (FM ok w) w t nv kv
def Io (ok:Nat→Prop) (w:World) (kv:Value) (ks:List Nd):Prop:=xH (FM ok w) w kv ks
structure Bc (ok:Nat→Prop) (a c:World):Prop where
 size:a.heap.size≤c.heap.size
 block:∀ k,ok k→k<a.heap.size→c.heap[k]? = a.heap[k]?
theorem dG {P:Nat} {ok:Nat→Prop} {a c:World} (h:But P a c) (hp:¬ ok P):Bc ok a c:=⟨h.size,fun k h1 h2=>h.block k h2 (fun e=>hp (e▸h1))⟩
theorem aT {ok:Nat→Prop} {a c:World} (h:Below a.heap.size a c):Bc ok a c:=⟨h.size,fun k _ h2=>h.block k h2⟩
theorem iE {ok:Nat→Prop} {g i:Nat} {a:World} {v:Value} (h:¬ ok g):Bc ok a (a.setCell ⟨g,i,none⟩ v):=⟨by simp [World.setCell],fun k h1 _=>Below.heap_setCell _ _ _ _ (fun e=>h (by simp at e;exact e▸h1))⟩
theorem eH {ok:Nat→Prop} {a b c:World} (h:Bc ok a b) (k:Bc ok b c):Bc ok a c:=⟨Nat.le_trans h.size k.size,fun i h1 h2=>(k.block i h1 (Nat.lt_of_lt_of_le h2 h.size)).trans (h.block i h1 h2)⟩
theorem eT {ok:Nat→Prop} {g:Nat} (w:World) (h:¬ ok g) (a b c d e f p:Value):Bc ok w (put7w w g a b c d e f p):=
 eH (eH (eH (eH (eH (eH (iE h) (iE h)) (iE h)) (iE h)) (iE h)) (iE h)) (iE h)
theorem aU {ok:Nat→Prop} {a c:World} (h:Bc ok a c) {t:Nd} {nv kv:Value} (hn:rI ok a t nv kv):rI ok c t nv kv:=
 gU (fun b hb=>⟨⟨hb.1,Nat.lt_of_lt_of_le hb.2 h.size⟩,h.block b hb.1 hb.2⟩) _ _ _ hn
theorem nB {ok:Nat→Prop} {a c:World} (h:Bc ok a c) {kv:Value} {ks:List Nd} (hn:Io ok a kv ks):Io ok c kv ks:=
 iD (fun b hb=>⟨⟨hb.1,Nat.lt_of_lt_of_le hb.2 h.size⟩,h.block b hb.1 hb.2⟩) hn
theorem jO {ok:Nat→Prop} {lo:Nat} {a:World} {t:Nd} {nv kv:Value} (hn:tP lo a t nv kv) (h:∀ b,lo≤b→b<a.heap.size→ok b):rI ok a t nv kv:=
 gU (fun b hb=>⟨⟨h b hb.1 hb.2,hb.2⟩,rfl⟩) _ _ _ hn
theorem rP {ok:Nat→Prop} {lo:Nat} {a:World} {t:Nd} {nv kv:Value} (hn:rI ok a t nv kv) (h:∀ b,ok b→lo≤b):tP lo a t nv kv:=
 gU (fun b hb=>⟨⟨h b hb.1,hb.2⟩,rfl⟩) _ _ _ hn
theorem pF {ok:Nat→Prop} {w:World} {k o n:Int} {s:ByteArray} {ns:List ByteArray} {ks:List Nd} {p:Int} {nv kv:Value} (h:xG (FM ok w) nv ns w∧Io ok w kv ks) (ht:Il k ks.length kv:=by first | exact fun h=>absurd h (by decide) | exact fun _=>⟨_,rfl⟩):rI ok w (.mk k o n s ns ks p) nv kv:=ndW_mk.2 ⟨ht,h⟩
theorem hM {ok:Nat→Prop} {w:World} {t:Nd} {nv kv:Value} (h:rI ok w t nv kv):∃ a1 c1 a2 c2,nv=.slice a1 t.names.length c1∧kv=.slice a2 t.kids.length c2:=aP (rP (lo:=0) h (fun _ _=>Nat.zero_le _))
theorem iF {w:World} {g h:Nat} {T:TypeId} {cs:Array Value} (H:dP h T cs w) (hne:h≠g) (a b c d e f p:Value):dP h T cs (put7w w g a b c d e f p):=
 ((eT (ok:=fun k=>k=h) w (fun e=>hne e.symm) a b c d e f p).block h rfl (aF H)).trans H
def bR (P:Nat) (L:List Tok) (w:World) (out:PR) (e:Ending) (w':World):Prop:=
 match out with
 | .ok t _ l=>(∃ nv kv,e=.returned (fR t nv kv)∧tP w.heap.size w' t nv kv)∧PSt P L w' l∧But P w w'
 | .bad l=>e=aV∧PSt P L w' l∧But P w w'
def Pp:Nat→FuncId
 | 1=>24
 | 2=>45
 | 3=>71
 | 4=>113
 | 5=>140
 | 6=>162
 | _=>176
def gS (f:Nat):Prop:=∀ (r P:Nat) (L l:List Tok) (w:World),1≤r→r≤7→20*l.length+(11 - r)≤f→Hid (PSt P L w l)→Calls Tryz.prog (Pp r) #[.pointer (some ⟨P,0,none⟩)] w (bR P L w (aS f r l))
def BE (f:Nat):Prop:=∀ (P:Nat) (L l:List Tok) (w:World),20*l.length+3≤f→Hid (PSt P L w l)→Calls Tryz.prog 158 #[.pointer (some ⟨P,0,none⟩)] w (bR P L w (kG f l))
def LT (f:Nat):Prop:=∀ (P:Nat) (L l:List Tok) (w:World),20*l.length+2≤f→Hid (PSt P L w l)→Calls Tryz.prog 172 #[.pointer (some ⟨P,0,none⟩)] w (bR P L w (hH f l))
def dK:Array Value:=#[.int .i64 0,.int .i64 0,.int .i64 0,.string ⟨#[]⟩,.slice none 0 0,.slice none 0 0,.int .i64 0]
theorem aN {g:Nat} {T:TypeId} {a b c d e f p:Value} {w:World} (h:dP g T #[a,b,c,d,e,f,p] w) :
  w.cell? ⟨g,0,none⟩=some a∧w.cell? ⟨g,1,none⟩=some b∧w.cell? ⟨g,2,none⟩=some c∧w.cell? ⟨g,3,none⟩=some d∧w.cell? ⟨g,4,none⟩=some e∧w.cell? ⟨g,5,none⟩=some f∧w.cell? ⟨g,6,none⟩=some p:=
 ⟨aB h 0,aB h 1,aB h 2,aB h 3,aB h 4,aB h 5,aB h 6⟩
theorem bP {g:Nat} {T:TypeId} {cs:Array Value} {w:World} (h:dP g T cs w) :
  w.frozen? ⟨g,0,none⟩=false∧w.frozen? ⟨g,1,none⟩=false∧w.frozen? ⟨g,2,none⟩=false∧w.frozen? ⟨g,3,none⟩=false∧w.frozen? ⟨g,4,none⟩=false∧w.frozen? ⟨g,5,none⟩=false∧w.frozen? ⟨g,6,none⟩=false:=
 ⟨bG h 0,bG h 1,bG h 2,bG h 3,bG h 4,bG h 5,bG h 6⟩
theorem bS {P:Nat} {L l:List Tok} {w w2:World} {g:Nat} {a' b' c' d' e' f' p':Value} (hP:P<w.heap.size) (hg:w.heap.size≤g) (S:PSt P L w2 l) (B:But P w w2) (G:dP g 26 #[a',b',c',d',e',f',p'] w2) (a b c d e f p:Value) :
  dP g 26 #[a,b,c,d,e,f,p] (put7w w2 g a b c d e f p)∧PSt P L (put7w w2 g a b c d e f p) l∧But P w (put7w w2 g a b c d e f p):=
 ⟨oL G a b c d e f p,LS S (by omega) a b c d e f p,LR B hg a b c d e f p⟩
theorem iW {P:Nat} {L l:List Tok} {w w2:World} {g:Nat} {a b c d e f p:Value} (H:dP g 26 #[a,b,c,d,e,f,p] w2∧PSt P L w2 l∧But P w w2) (o:Obj) :
  dP g 26 #[a,b,c,d,e,f,p] (w2.alloc o)∧PSt P L (w2.alloc o) l∧But P w (w2.alloc o):=by
 have A:=(Below.refl _ w2).alloc (Nat.le_refl _) o;exact⟨aC H.1 A,H.2.1.on A,H.2.2.trans (But.of A)⟩
theorem qK {lo g:Nat} {w2:World} {x:Nd} {nv kv:Value} (hg:g<lo) (hl:lo≤w2.heap.size) (N:tP lo w2 x nv kv) (a b c d e f p:Value) {T:TypeId} :
  FL lo ((put7w w2 g a b c d e f p).alloc (.cells (fL x nv kv) T)) (.slice (some ⟨w2.heap.size,0,none⟩) 1 1) [x]:=by
 have A:=cV w2 hg a b c d e f p;have hs:(put7w w2 g a b c d e f p).heap.size=w2.heap.size:=by simp [put7w,World.setCell]
 have A2:=kN A (bO (lo:=lo) ((Below.refl _ (put7w w2 g a b c d e f p)).alloc (Nat.le_refl _) (.cells (fL x nv kv) T)));have hb:=aI (put7w w2 g a b c d e f p) T (fL x nv kv);rw [hs] at hb;exact LP ⟨hl,by simp [hs]⟩ hb (aY A2 N)
theorem LU (f:Nat) (hR:gS f) (P:Nat) (L:List Tok) (t:Tok) (q:List Tok) (w:World) (hf:20*q.length+4≤f) (H:Hid (PSt P L w (t::q))) (ht:gH t [45]=true) :
  Calls Tryz.prog 176 #[.pointer (some ⟨P,0,none⟩)] w (bR P L w ((aS f 7 q).bind fun e _ l=>.ok (gK 9 1 [e]) false l)):=by
 have A:=aA ((Below.refl _ w).alloc (Nat.le_refl _) (.cells dK 26));have S0:=aA (H.out.on A.out);have G0:=aA (aI w 26 dK);have hP:=H.out.lt;have HC:=aA (fun w' S=>hR 7 P L q w' (by omega) (by omega) (by omega) S);have HT:=aA ht;unfold dK at *
 clear H hR ht;cases hq:aS f 7 q with
 | bad l'=>
  rw [hq] at HC;rw [PR.bind_bad];go_enter Tryz.func176,Tryz.ntmps176;go_wp2_with fail;refine (cQ P L t q ⟨#[45]⟩ _ S0 HT.out).mono ?_;rintro e w1 ⟨rfl,s1,b1⟩;have S1:=aA s1;have B1:=aA ((But.of (P:=P) A.out).trans b1);have G1:=aA (aD G0.out b1 (by omega));have hg1:=aF G1.out;clear s1 b1 S0 A G0 HT;go_wp2_with fail;refine (HC.out _ S1).mono ?_;rintro e w2 ⟨rfl,s2,b2⟩;have S2:=aA s2;have B2:=aA (B1.out.trans b2);clear s2 b2 S1 B1 G1 HC;unfold aV;go_wp2_with fail;exact⟨rfl,rfl,S2.out,B2.out⟩
 | ok x b l'=>
  rw [hq] at HC;rw [PR.bind_ok];go_enter Tryz.func176,Tryz.ntmps176;go_wp2_with fail;refine (cQ P L t q ⟨#[45]⟩ _ S0 HT.out).mono ?_;rintro e w1 ⟨rfl,s1,b1⟩;have S1:=aA s1;have B1:=aA ((But.of (P:=P) A.out).trans b1);have G1:=aA (aD G0.out b1 (by omega));have hg1:=aF G1.out;clear s1 b1 S0 A G0 HT;go_wp2_with fail;refine (HC.out _ S1).mono ?_;rintro e w2 ⟨⟨nv,kv,rfl,n2⟩,s2,b2⟩;have S2:=aA s2;have N2:=aA (bE hg1 n2);have B2:=aA (B1.out.trans b2);have G2:=aA (aD G1.out b2 (by omega));have hg2:=aF G2.out;obtain⟨r0,r1,r2,r3,r4,r5,r6⟩:=aN G2.out;obtain⟨u0,u1,u2,u3,u4,u5,u6⟩:=bP G2.out;clear s2 b2 S1 B1 G1 HC n2;unfold fR;go_wp2_with fail;have Z:=iW (bS hP (Nat.le_refl _) S2.out B2.out G2.out (.int .i64 9) (.int .i64 1) (.int .i64 0) (.string ⟨#[]⟩) (.slice none 0 0) (.slice (some ⟨w2.heap.size,0,none⟩) 1 1) (.int .i64 0)) (.cells (fL x nv kv) 26);have K:=qK (g:=w.heap.size) (T:=26) (Nat.lt_succ_self _) hg2 N2.out (.int .i64 9) (.int .i64 1) (.int .i64 0) (.string ⟨#[]⟩) (.slice none 0 0) (.slice (some ⟨w2.heap.size,0,none⟩) 1 1) (.int .i64 0);exact bodyPost_ret (cJ rfl rfl Z.1) rfl ⟨⟨_,_,rfl,eN ⟨gF,gR (Nat.le_succ _) K⟩⟩,Z.2.1,Z.2.2⟩
theorem Py (f:Nat) (hR:gS f) (P:Nat) (L:List Tok) (t:Tok) (q:List Tok) (w:World) (hf:20*q.length+4≤f) (H:Hid (PSt P L w (t::q))) (hn:gH t [45]=false) (ht:gH t [33]=true) :
  Calls Tryz.prog 176 #[.pointer (some ⟨P,0,none⟩)] w (bR P L w ((aS f 7 q).bind fun e _ l=>.ok (gK 9 2 [e]) false l)):=by
 have A:=aA ((Below.refl _ w).alloc (Nat.le_refl _) (.cells dK 26));have S0:=aA (H.out.on A.out);have G0:=aA (aI w 26 dK);have hP:=H.out.lt;have HC:=aA (fun w' S=>hR 7 P L q w' (by omega) (by omega) (by omega) S);have HT:=aA ht;have HN:=aA (show bZ (t::q) [45]=false from hn);unfold dK at *
 clear H hR ht hn;cases hq:aS f 7 q with
 | bad l'=>
  rw [hq] at HC;rw [PR.bind_bad];go_enter Tryz.func176,Tryz.ntmps176;go_wp2_with fail;refine (bF P L (t::q) ⟨#[45]⟩ _ S0 HN.out).mono ?_;rintro e wn ⟨rfl,bn⟩;have Sn:=aA (S0.out.on bn);have An:=aA (aH A.out (Nat.le_refl _) bn);have Gn:=aA (aC G0.out bn);have hzn:=bn.size;simp only [World.size_alloc] at hzn;clear bn S0 A G0 HN;go_wp2_with fail;refine (cQ P L t q ⟨#[33]⟩ _ Sn HT.out).mono ?_;rintro e w1 ⟨rfl,s1,b1⟩;have S1:=aA s1;have B1:=aA ((But.of (P:=P) An.out).trans b1);have G1:=aA (aD Gn.out b1 (by omega));have hg1:=aF G1.out;clear s1 b1 Sn An Gn HT;go_wp2_with fail;refine (HC.out _ S1).mono ?_;rintro e w2 ⟨rfl,s2,b2⟩;have S2:=aA s2;have B2:=aA (B1.out.trans b2);clear s2 b2 S1 B1 G1 HC;unfold aV;go_wp2_with fail;exact⟨rfl,rfl,S2.out,B2.out⟩
 | ok x b l'=>
  rw [hq] at HC;rw [PR.bind_ok];go_enter Tryz.func176,Tryz.ntmps176;go_wp2_with fail;refine (bF P L (t::q) ⟨#[45]⟩ _ S0 HN.out).mono ?_;rintro e wn ⟨rfl,bn⟩;have Sn:=aA (S0.out.on bn);have An:=aA (aH A.out (Nat.le_refl _) bn);have Gn:=aA (aC G0.out bn);have hzn:=bn.size;simp only [World.size_alloc] at hzn;clear bn S0 A G0 HN;go_wp2_with fail;refine (cQ P L t q ⟨#[33]⟩ _ Sn HT.out).mono ?_;rintro e w1 ⟨rfl,s1,b1⟩;have S1:=aA s1;have B1:=aA ((But.of (P:=P) An.out).trans b1);have G1:=aA (aD Gn.out b1 (by omega));have hg1:=aF G1.out;clear s1 b1 Sn An Gn HT;go_wp2_with fail;refine (HC.out _ S1).mono ?_;rintro e w2 ⟨⟨nv,kv,rfl,n2⟩,s2,b2⟩;have S2:=aA s2;have N2:=aA (bE hg1 n2);have B2:=aA (B1.out.trans b2);have G2:=aA (aD G1.out b2 (by omega));have hg2:=aF G2.out;obtain⟨r0,r1,r2,r3,r4,r5,r6⟩:=aN G2.out;obtain⟨u0,u1,u2,u3,u4,u5,u6⟩:=bP G2.out;clear s2 b2 S1 B1 G1 HC n2;unfold fR;go_wp2_with fail;have Z:=iW (bS hP (Nat.le_refl _) S2.out B2.out G2.out (.int .i64 9) (.int .i64 2) (.int .i64 0) (.string ⟨#[]⟩) (.slice none 0 0) (.slice (some ⟨w2.heap.size,0,none⟩) 1 1) (.int .i64 0)) (.cells (fL x nv kv) 26);have K:=qK (g:=w.heap.size) (T:=26) (Nat.lt_succ_self _) hg2 N2.out (.int .i64 9) (.int .i64 2) (.int .i64 0) (.string ⟨#[]⟩) (.slice none 0 0) (.slice (some ⟨w2.heap.size,0,none⟩) 1 1) (.int .i64 0);exact bodyPost_ret (cJ rfl rfl Z.1) rfl ⟨⟨_,_,rfl,eN ⟨gF,gR (Nat.le_succ _) K⟩⟩,Z.2.1,Z.2.2⟩
theorem NZ (f:Nat) (hR:BE f) (P:Nat) (L l:List Tok) (w:World) (hf:20*l.length+3≤f) (H:Hid (PSt P L w l)) (h1:bZ l [45]=false) (h2:bZ l [33]=false) :
  Calls Tryz.prog 176 #[.pointer (some ⟨P,0,none⟩)] w (bR P L w (kG f l)):=by
 have A:=aA ((Below.refl _ w).alloc (Nat.le_refl _) (.cells dK 26));have S0:=aA (H.out.on A.out);have G0:=aA (aI w 26 dK);have hP:=H.out.lt;have HC:=aA (fun w' S=>hR P L l w' hf S);have H1:=aA h1;have H2:=aA h2;unfold dK at *
 clear H hR h1 h2;cases hq:kG f l with
 | bad l'=>
  rw [hq] at HC;go_enter Tryz.func176,Tryz.ntmps176;go_wp2_with fail;refine (bF P L l ⟨#[45]⟩ _ S0 H1.out).mono ?_;rintro e wn ⟨rfl,bn⟩;have Sn:=aA (S0.out.on bn);have An:=aA (aH A.out (Nat.le_refl _) bn);have Gn:=aA (aC G0.out bn);clear bn S0 A G0 H1;go_wp2_with fail;refine (bF P L l ⟨#[33]⟩ _ Sn H2.out).mono ?_;rintro e wm ⟨rfl,bm⟩;have S2:=aA (Sn.out.on bm);have A2:=aA (aH An.out (Nat.le_refl _) bm);have G2:=aA (aC Gn.out bm);clear bm Sn An Gn H2;go_wp2_with fail;refine (HC.out _ S2).mono ?_;rintro e w2 ⟨rfl,s2,b2⟩;have S3:=aA s2;have B3:=aA ((But.of A2.out).trans b2);clear s2 b2 S2 A2 G2 HC;unfold aV;go_wp2_with fail;exact⟨rfl,rfl,S3.out,B3.out⟩
 | ok x b l'=>
  rw [hq] at HC;go_enter Tryz.func176,Tryz.ntmps176;go_wp2_with fail;refine (bF P L l ⟨#[45]⟩ _ S0 H1.out).mono ?_;rintro e wn ⟨rfl,bn⟩;have Sn:=aA (S0.out.on bn);have An:=aA (aH A.out (Nat.le_refl _) bn);have Gn:=aA (aC G0.out bn);clear bn S0 A G0 H1;go_wp2_with fail;refine (bF P L l ⟨#[33]⟩ _ Sn H2.out).mono ?_;rintro e wm ⟨rfl,bm⟩;have S2:=aA (Sn.out.on bm);have A2:=aA (aH An.out (Nat.le_refl _) bm);have G2:=aA (aC Gn.out bm);clear bm Sn An Gn H2;go_wp2_with fail;refine (HC.out _ S2).mono ?_;rintro e w2 ⟨⟨nv,kv,rfl,n2⟩,s2,b2⟩;obtain⟨a1,q1,a2,q2,rfl,rfl⟩:=aP n2;have S3:=aA s2;have hg2:=aF G2.out;have N3:=aA (bE hg2 n2);have B3:=aA ((But.of A2.out).trans b2);have G3:=aA (aD G2.out b2 (by omega));have hg3:=aF G3.out;obtain⟨r0,r1,r2,r3,r4,r5,r6⟩:=aN G3.out;obtain⟨u0,u1,u2,u3,u4,u5,u6⟩:=bP G3.out;clear s2 b2 S2 A2 G2 HC n2;unfold fR;go_wp2_with fail;have Z:=bS hP (Nat.le_refl _) S3.out B3.out G3.out (.int .i64 x.kind) (.int .i64 x.op) (.int .i64 x.num) (.string x.str) (.slice a1 x.names.length q1) (.slice a2 x.kids.length q2) (.int .i64 x.pl);exact bodyPost_ret (cJ rfl rfl Z.1) rfl ⟨⟨_,_,rfl,bE (Nat.le_succ _) (aY (cV w2 (Nat.lt_succ_self _) _ _ _ _ _ _ _) N3.out)⟩,Z.2.1,Z.2.2⟩
end Go.Proofs.YtdnnmjhfidimcaaGreatDoor
