/- Slices of tokens of the call's own. All tokens of a text, as the program reads them. The document's tokens, as its own functions read them. -/
import Derived.Test.YtdnnmjhfidimcaaGreatDoorJoint31
import Derived.Test.YtdnnmjhfidimcaaGreatDoorJoint16
import Derived.Deep.RegionLaw
import Derived.Test.YtdnnmjhfidimcaaGreatDoorJoint4
import Derived.Test.YtdnnmjhfidimcaaGreatDoorRefTake
import Derived.Test.YtdnnmjhfidimcaaGreatDoorJoint2
namespace Go.Proofs.YtdnnmjhfidimcaaGreatDoor
set_option maxHeartbeats 1600000
set_option maxRecDepth 100000
open Go.RowKit
def fS (l:List Tok):List Value:=l.flatMap Tok.cells
theorem sK (l m:List Tok):fS (l++m)=fS l++fS m:=by simp [fS]
theorem xD (l:List Tok):∀ u∈fS l,u.oneCell'=true:=by
 intro u hu;simp only [fS,List.mem_flatMap,Tok.cells] at hu;obtain⟨t,_,hu⟩:=hu;simp at hu;rcases hu with rfl | rfl | rfl | rfl<;>rfl
def IF (T:TypeId) (B:Nat) (v:Value) (l:List Tok) (w:World):Prop:=w.ownsRow B T 4 v l.length (fS l)
theorem qK (T:TypeId) (B:Nat) (w:World):IF T B (.slice none 0 0) [] w:=⟨rfl,.inl ⟨rfl,rfl⟩⟩
theorem yP {T:TypeId} {B:Nat} {v:Value} {l:List Tok} {w:World} (h:IF T B v l w):∃ ao cap,v=.slice ao l.length cap:=by
 rcases h.2 with ⟨h1,h2⟩ | ⟨g,cap,cur,h1,_⟩
 ·exact⟨none,0,by rw [h1,h2]⟩
 ·exact⟨_,_,h1⟩
theorem DV {T:TypeId} {B:Nat} {v:Value} {l:List Tok} {a b:World} (h:IF T B v l a) (k:Below a.heap.size a b):IF T B v l b:=by
 refine⟨h.1,?_⟩;rcases h.2 with h1 | ⟨g,cap,cur,h1,h2,h3,h4⟩
 ·exact .inl h1
 ·refine .inr ⟨g,cap,cur,h1,h2,?_,h4⟩;rw [k.block g (by
   rcases Nat.lt_or_ge g a.heap.size with h | h
   ·exact h
   ·rw [Array.getElem?_eq_none h] at h3;cases h3)]
  exact h3
theorem Se:∃ i0,Tryz.prog.info? 67=some i0∧i0.zero=some (.agg #[.int .i64 0,.string ⟨#[]⟩,.int .i64 0,.int .i64 0])∧i0.size=4∧i0.bytes=40:=
 info_parts (show (Tryz.prog.info? 67).map (fun i=>(i.zero,i.size,i.bytes))=some (some (.agg #[.int .i64 0,.string ⟨#[]⟩,.int .i64 0,.int .i64 0]),4,40) by kernel_rfl)
theorem Ry:Tryz.prog.underlying 62=some (.slice 67):=by kernel_rfl
theorem Sf:∃ i0,Tryz.prog.info? 58=some i0∧i0.zero=some (.agg #[.int .i64 0,.string ⟨#[]⟩,.int .i64 0,.int .i64 0])∧i0.size=4∧i0.bytes=40:=
 info_parts (show (Tryz.prog.info? 58).map (fun i=>(i.zero,i.size,i.bytes))=some (some (.agg #[.int .i64 0,.string ⟨#[]⟩,.int .i64 0,.int .i64 0]),4,40) by kernel_rfl)
theorem Rz:Tryz.prog.underlying 37=some (.slice 58):=by kernel_rfl
theorem JV {ops:Array Oper} {rest:List Oper} {o:Oper} {a:Act} {Q:Exit→Act→World→Prop} {w:World} (hgd:o.guard=none) (s x:Operand)
  (ho:o.op=.call { callee:=.builtin .append,args:=#[s,x],argTypes:=#[62,62] })
  (B:Nat) (l:List Tok) (t:Tok) (cs:Array Value) (hcs:cs=t.cells.toArray) (v:Value) (hs:a.eval s=v) (hown:IF 67 B v l w)
  (nb:Nat) (hx:a.eval x=.slice (some ⟨nb,0,none⟩) 1 1) (hnb:nb=w.heap.size) (hlen:l.length≤1000000) (hB:B≤w.heap.size)
  (h:∀ v' w',IF 67 B v' (l++[t]) w'→Below B w w'→wpList Tryz.prog ops Q rest (a.put o.dst v') w') :
  wpList Tryz.prog ops Q (o::rest) a (w.alloc (.cells cs 67)):=by
 subst hnb;obtain⟨i0,hi,hz0,hz1,hz2⟩:=Se;refine wpList_append_own _ hgd s x 62 ho B 67 i0 _ 4 40 Ry hi hz0 hz1 hz2 rfl (by decide) v _ _ hs (World.ownsRow.alloc hown _) ⟨w.heap.size,0,none⟩ 1 1 t.cells hx rfl ?_ ?_ (by unfold maxLen;omega) (by omega) (by simp;omega) ?_
 ·intro j u hj;have e:(⟨w.heap.size,0,none⟩:Addr).add j=⟨w.heap.size,j,none⟩:=by unfold Addr.add;split<;>simp_all
  rw [e,World.cell?_alloc_new,hcs];simpa using hj
 ·intro u hu;exact xD [t] u (by simpa [fS] using hu)
 ·intro v' w2 hown' hgrow _;refine h v' w2 ?_ ?_
  ·unfold IF;rw [sK,List.length_append];simpa [fS] using hown'
  ·exact ((Below.refl B w).alloc hB _).grown hgrow (by simp;omega) (fun k hk=>(hown.lt k hk).1)
theorem JW {ops:Array Oper} {rest:List Oper} {o:Oper} {a:Act} {Q:Exit→Act→World→Prop} {w:World} (hgd:o.guard=none) (s x:Operand)
  (ho:o.op=.call { callee:=.builtin .append,args:=#[s,x],argTypes:=#[37,37] })
  (B:Nat) (l:List Tok) (t:Tok) (cs:Array Value) (hcs:cs=t.cells.toArray) (v:Value) (hs:a.eval s=v) (hown:IF 58 B v l w)
  (nb:Nat) (hx:a.eval x=.slice (some ⟨nb,0,none⟩) 1 1) (hnb:nb=w.heap.size) (hlen:l.length≤1000000) (hB:B≤w.heap.size)
  (h:∀ v' w',IF 58 B v' (l++[t]) w'→Below B w w'→wpList Tryz.prog ops Q rest (a.put o.dst v') w') :
  wpList Tryz.prog ops Q (o::rest) a (w.alloc (.cells cs 58)):=by
 subst hnb;obtain⟨i0,hi,hz0,hz1,hz2⟩:=Sf;refine wpList_append_own _ hgd s x 37 ho B 58 i0 _ 4 40 Rz hi hz0 hz1 hz2 rfl (by decide) v _ _ hs (World.ownsRow.alloc hown _) ⟨w.heap.size,0,none⟩ 1 1 t.cells hx rfl ?_ ?_ (by unfold maxLen;omega) (by omega) (by simp;omega) ?_
 ·intro j u hj;have e:(⟨w.heap.size,0,none⟩:Addr).add j=⟨w.heap.size,j,none⟩:=by unfold Addr.add;split<;>simp_all
  rw [e,World.cell?_alloc_new,hcs];simpa using hj
 ·intro u hu;exact xD [t] u (by simpa [fS] using hu)
 ·intro v' w2 hown' hgrow _;refine h v' w2 ?_ ?_
  ·unfold IF;rw [sK,List.length_append];simpa [fS] using hown'
  ·exact ((Below.refl B w).alloc hB _).grown hgrow (by simp;omega) (fun k hk=>(hown.lt k hk).1)
/-! how far a token goes -/
theorem FG {p:Nat→Bool} {b:UInt8} {r:List UInt8} (h:p b.toNat=true):1≤jH p (b::r):=by simp [jH,h]
theorem xE:∀ (L:List (List UInt8)) (l:List UInt8),fB L l=[]∨(fB L l).isPrefixOf l=true
 | [],_=>.inl rfl
 | x::L,l=>by
  unfold fB;split
  ·right;assumption
  ·exact xE L l
theorem RA {l:List UInt8} {k:Nat} (h:(cA l k).2.2=0):k<(cA l k).2.1∧(cA l k).2.1≤k+l.length:=by
 match l with
 | []=>simp [cA] at h
 | b::r=>
  unfold cA at h ⊢;simp only at h ⊢;by_cases hl:aW b.toNat=true
  ·rw [if_pos hl] at h ⊢;unfold hD at h ⊢;have h1:1≤jH dS (b::r):=FG (by simp [dS,hl]);have h2:=uG dS (b::r);split at h
   ·rename_i h3;rw [if_pos h3];exact⟨by simp only;omega,by simp only;omega⟩
   ·rename_i h3;rw [if_neg h3];split at h
    ·rename_i h4;rw [if_pos h4];exact⟨by simp only;omega,by simp only;omega⟩
    ·simp at h
  ·rw [if_neg hl] at h ⊢;by_cases hd:bA b.toNat=true
   ·rw [if_pos hd] at h ⊢;unfold iB at h ⊢;have h1:1≤jH bA (b::r):=FG hd;have h2:=uG bA (b::r);split at h
    ·rename_i h3;rw [if_pos h3];exact⟨by simp only;omega,by simp only;omega⟩
    ·rename_i h3;exact absurd h h3
   ·rw [if_neg hd] at h ⊢;by_cases h34:b.toNat=34
    ·rw [if_pos h34] at h ⊢;unfold jX at h ⊢;split at h
     ·rename_i h3;rw [if_pos h3];split at h
      ·simp at h
      ·rename_i h4;rw [if_neg h4];have hg:takeOut (b::r)=((takeOut (b::r)).1,(takeOut (b::r)).2.1,0):=by rw [← h3]
       have:=wJ hg;exact⟨by simp only;omega,by simp only;omega⟩
     ·rename_i h3;exact absurd h h3
    ·rw [if_neg h34] at h ⊢;unfold kK at h ⊢;split at h
     ·simp at h
     ·rename_i h3;rw [if_neg h3];have h4:0<(signL (b::r)).length:=List.length_pos_iff.2 h3;have h5:(signL (b::r)).length≤(b::r).length:=by
       rcases xE sgnL (b::r) with h6 | h6
       ·exact absurd h6 h3
       ·exact (List.isPrefixOf_iff_prefix.1 h6).length_le
      exact⟨by simp only;omega,by simp only;omega⟩
theorem Om {s:ByteArray} {k:Nat} (hk:k≤s.size) (h:(cA (s.data.toList.drop k) k).2.2=0):k<(cA (s.data.toList.drop k) k).2.1∧(cA (s.data.toList.drop k) k).2.1≤s.size:=by
 have:=RA h;rw [List.length_drop,cB] at this;omega
def pF (v:Value) (o:List Tok×Nat×Int):Ending:=.returned (.tuple #[v,.int .i64 o.2.1,.int .i64 o.2.2])
theorem xG (s:ByteArray) (hs:s.size≤1000000) (w:World) (h0:0<w.heap.size) (SG:Hid (iF 0 sgnL w)) :
  Calls Tryz.prog 35 #[.string s] w fun e w'=>∃ v,e=pF v (tokOut s)∧IF 67 w.heap.size v (tokOut s).1 w'∧Below w.heap.size w w':=by
 by_cases hlong:2000<s.size
 ·have H:=aA (show tokOut s=([],0,3) by unfold tokOut;rw [if_pos hlong]);clear SG;go_enter Tryz.func35,Tryz.ntmps35;go_wp2;go_ret3
  exact⟨.slice none 0 0,by rw [H.out];rfl,by rw [H.out];exact qK _ _ _,Below.refl _ _⟩
 have hgo:tokOut s=jD s (s.size+1) (skipTo false s 0) []:=by unfold tokOut;rw [if_neg hlong]
 generalize tokOut s=out at *
 have hk0:=pA (f:=false) (s:=s) (k:=0) (Nat.zero_le _);generalize hk:skipTo false s 0=k0 at *
 have Hk:=aA hk;have HG:=aA hgo;clear hk hgo;go_enter Tryz.func35,Tryz.ntmps35;go_wp2_with fail;refine (Br s hs 0 (Nat.zero_le _) _).mono ?_;rintro e w1 ⟨rfl,rfl⟩;rw [Hk.out];clear Hk;go_wp2;go_loopw [5,6] (fun l i wr=>∃ (j f:Nat) (acc:List Tok),j≤s.size∧i=.int .i64 j∧acc.length≤600∧s.size<j+f∧out=jD s f j acc∧IF 67 w.heap.size l acc wr∧Below w.heap.size w wr) (fun _ i _=>s.size - (intOf i).toNat)
 case atStart=>exact⟨k0,s.size+1,[],hk0,rfl,by decide,by omega,HG.out,qK _ _ _,Below.refl _ _⟩
 case round=>
  clear HG;obtain⟨j,f,acc,hj,rfl,hacc,hf,hout,hrow,hbel⟩:=hrel;obtain⟨f,rfl⟩:∃ f',f=f'+1:=⟨f - 1,by omega⟩
  obtain⟨ao,cap,rfl⟩:=yP hrow;have R:=aA hrow;have B:=aA hbel;have hsz:w.heap.size≤wr.heap.size:=hbel.size;clear hrow hbel;by_cases hjl:j<s.size
  ·have SG1:=aA (eD SG.out h0 (B.out));have h1:0<wr.heap.size:=by omega
   have hto:=fun h=>Om (s:=s) (k:=j) hj h
   have hbad:=fun he=>hout.trans (CT (acc:=acc) (f:=f) hjl rfl he)
   have hfull:=fun he hf=>hout.trans (vO (acc:=acc) (f:=f) hjl rfl he hf)
   have hmore:=fun he hf=>hout.trans (vP (acc:=acc) (f:=f) hjl rfl he hf)
   generalize ho:cA (s.data.toList.drop j) j=o at *
   obtain⟨⟨t0,t1,t2,t3⟩,n,er⟩:=o;have Ho:=aA ho;clear ho hout;simp only at hto hbad hfull hmore;rcases (show er=0∨er≠0 from by omega) with rfl | hne
   ·have hto1:=hto rfl;by_cases h600:acc.length=600
    ·have H:=aA (hfull rfl h600);have e6:((acc.length:Int)==600)=true:=beq_iff_eq.2 (by omega);clear hbad hfull hmore hto;go_wp2_with fail;refine (vS s hs j hjl _ h1 SG1).mono ?_;rintro e w1 ⟨rfl,b1⟩;rw [Ho.out];have B1:=aA (aG B.out (Nat.le_refl _) b1);clear b1 SG1 R B;unfold TokOut.ending Tok.val;go_wp2;go_ret3
     exact⟨.slice none 0 0,by rw [H.out];rfl,by rw [H.out];exact qK _ _ _,B1.out.alloc B1.out.size _⟩
    ·have H:=aA (hmore rfl h600);have e6:((acc.length:Int)==600)=false:=beq_eq_false_iff_ne.2 (by omega);have hq1:=yA false s n;have hq2:=pA (f:=false) hto1.2;clear hbad hfull hmore hto;go_wp2_with fail;refine (vS s hs j hjl _ h1 SG1).mono ?_;rintro e w1 ⟨rfl,b1⟩;rw [Ho.out];have b2:=(Below.refl w1.heap.size w1).alloc (Nat.le_refl _) (.cells #[.int .i64 t0,.string t1,.int .i64 t2,.int .i64 t3] 67);have B1:=aA (aG (aG B.out (Nat.le_refl _) b1) (Nat.le_refl _) b2);have R1:=aA (DV (DV R.out b1) b2);have hsz1:w.heap.size≤(w1.alloc (.cells #[.int .i64 t0,.string t1,.int .i64 t2,.int .i64 t3] 67)).heap.size:=B1.out.size;clear b1 b2 SG1 R B;unfold TokOut.ending Tok.val;go_wp2_with (at_builtin;refine JV rfl _ _ rfl w.heap.size acc ⟨t0,t1,t2,t3⟩ _ rfl _ (by rfl) R1.out _ (by rfl) (by simp) (by omega) hsz1 ?_)
     intro v' w2 R2 b2;have R3:=aA R2;have B3:=aA (B1.out.trans b2);clear R1 B1 R2 b2 hsz1;go_wp2_with fail;refine (Br s hs n hto1.2 _).mono ?_;rintro e w3 ⟨rfl,rfl⟩;generalize skipTo false s n=q at *
     go_wp2;go_roundw
     case rel=>exact⟨q,f,acc++[⟨t0,t1,t2,t3⟩],hq2,rfl,by simp;omega,by omega,H.out,R3.out,B3.out⟩
     case measure=>simp [intOf];omega
   ·have H:=aA (hbad hne);have en:(er != 0)=true:=by rw [bne_iff_ne];exact hne
    clear hbad hfull hmore hto;go_wp2_with fail;refine (vS s hs j hjl _ h1 SG1).mono ?_;rintro e w1 ⟨rfl,b1⟩;rw [Ho.out];have B1:=aA (aG B.out (Nat.le_refl _) b1);clear b1 SG1 R B;unfold TokOut.ending Tok.val;go_wp2;go_ret3
    exact⟨.slice none 0 0,by rw [H.out];rfl,by rw [H.out];exact qK _ _ _,B1.out.alloc B1.out.size _⟩
  ·have H:=aA (hout.trans (yK (by omega)));clear hout;go_wp2_with (at_builtin;refine JV rfl _ _ rfl w.heap.size acc ⟨6,⟨#[]⟩,0,s.size⟩ _ rfl _ (by rfl) R.out _ (by rfl) (by simp) (by omega) hsz ?_)
   intro v' w2 R2 B2;go_wp2;go_ret3
   exact⟨v',by rw [H.out];rfl,by rw [H.out];exact R2,B.out.trans B2⟩
theorem QR {s:ByteArray} {j:Nat} (h:j<s.size):skipTo true s j=skipTo (jK s[j].toNat) s (j+1):=by
 unfold skipTo;rw [aZ s j h];simp [kC];omega
theorem Js {s:ByteArray} {j:Nat} (h:j+1<s.size) (h1:s[j].toNat=47) (h2:s[j+1].toNat=47):skipTo false s j=skipTo true s (j+1):=by
 unfold skipTo;rw [aZ s j (by omega),aZ s (j+1) h];simp [kC,fA,h1,h2,jK];omega
theorem Cd {s:ByteArray} {j:Nat} (h:j<s.size) (hn:s[j].toNat≠47∨s.size≤j+1∨∃ h2:j+1<s.size,s[j+1].toNat≠47):fA (s.data.toList.drop j)=false:=by
 rw [aZ s j h];rcases Nat.lt_or_ge (j+1) s.size with h2 | h2
 ·rw [aZ s (j+1) h2];rcases hn with hn | hn | ⟨_,hn⟩
  ·simp [fA,hn]
  ·omega
  ·simp [fA,hn]
 ·rw [fH s (j+1) h2];rfl
theorem wE {s:ByteArray} {j:Nat} (h:j<s.size) (hs:fA (s.data.toList.drop j)=false) (hb:gE s[j].toNat=true):skipTo false s j=skipTo false s (j+1):=by
 unfold skipTo;rw [aZ s j h] at hs ⊢;simp [kC,hs,hb];omega
theorem vF (s:ByteArray) (hs:s.size≤1000000) (k:Nat) (hk:k≤s.size) (w:World) :
  Calls Tryz.prog 29 #[.string s,.int .i64 k] w fun e w'=>e=.returned (.int .i64 (skipTo false s k))∧w=w':=by
 go_enter Tryz.func29,Tryz.ntmps29;go_wp2;go_loop [1,5] (fun i n=>∃ (j:Nat) (fl:Bool),k≤j∧j≤s.size∧i=.int .i64 j∧n=.bool fl∧skipTo false s k=skipTo fl s j) (fun i _=>s.size - (intOf i).toNat)
 case atStart=>exact⟨k,false,Nat.le_refl _,hk,rfl,rfl,rfl⟩
 case round=>
  obtain⟨j,fl,hkj,hj,rfl,rfl,hq⟩:=hrel;by_cases hjl:j<s.size
  ·cases fl with
   | true=>
    have h1:=hq.trans (QR hjl);clear hq;by_cases h10:s[j].toNat=10
    ·have H:=aA (h1.trans (by rw [show jK s[j].toNat=false by simp [jK,h10]]));have e1:((s[j].toNat:Int) != 10)=false:=by rw [bne_eq_false_iff_eq];omega
     clear h1;go_wp2;go_round
     case rel=>exact⟨j+1,false,by omega,by omega,by go_num,rfl,H.out⟩
     case measure=>simp [intOf];omega
    ·have H:=aA (h1.trans (by rw [show jK s[j].toNat=true by simp [jK,h10]]));have e1:((s[j].toNat:Int) != 10)=true:=by rw [bne_iff_ne];omega
     clear h1;go_wp2;go_round
     case rel=>exact⟨j+1,true,by omega,by omega,by go_num,rfl,H.out⟩
     case measure=>simp [intOf];omega
   | false=>
    by_cases h47:s[j].toNat=47
    ·have e1:((s[j].toNat:Int)==47)=true:=beq_iff_eq.2 (by omega);have f1:((s[j].toNat:Int) != 32)=true:=by rw [bne_iff_ne];omega
     have f2:((s[j].toNat:Int) != 10)=true:=by rw [bne_iff_ne];omega
     have f3:((s[j].toNat:Int) != 9)=true:=by rw [bne_iff_ne];omega
     have hb:gE s[j].toNat=false:=by simp [gE];omega
     by_cases hl2:j+1<s.size
     ·by_cases h472:s[j+1].toNat=47
      ·have H:=aA (hq.trans (Js hl2 h47 h472));have e2:((s[j+1].toNat:Int)==47)=true:=beq_iff_eq.2 (by omega);clear hq hb f1 f2 f3;go_wp2;go_round
       case rel=>exact⟨j+1,true,by omega,by omega,by go_num,rfl,H.out⟩
       case measure=>simp [intOf];omega
      ·have H:=aA (hq.trans (rH (Cd hjl (.inr (.inr ⟨hl2,h472⟩))) (fun _=>hb)));have e2:((s[j+1].toNat:Int)==47)=false:=beq_eq_false_iff_ne.2 (by omega);clear hq hb;go_wp2;go_ret;exact⟨by rw [H.out];rfl,rfl⟩
     ·have H:=aA (hq.trans (rH (Cd hjl (.inr (.inl (by omega)))) (fun _=>hb)));clear hq hb;go_wp2;go_ret;exact⟨by rw [H.out];rfl,rfl⟩
    ·have e1:((s[j].toNat:Int)==47)=false:=beq_eq_false_iff_ne.2 (by omega);have hns:=Cd hjl (.inl h47);rcases (show s[j].toNat=32∨s[j].toNat=10∨s[j].toNat=9∨(s[j].toNat≠32∧s[j].toNat≠10∧s[j].toNat≠9) from by omega) with h | h | h | ⟨h1,h2,h3⟩
     ·have H:=aA (hq.trans (wE hjl hns (by simp [gE,h])));have f1:((s[j].toNat:Int) != 32)=false:=by rw [bne_eq_false_iff_eq];omega
      clear hq hns;go_wp2;go_round
      case rel=>exact⟨j+1,false,by omega,by omega,by go_num,rfl,H.out⟩
      case measure=>simp [intOf];omega
     ·have H:=aA (hq.trans (wE hjl hns (by simp [gE,h])));have f1:((s[j].toNat:Int) != 32)=true:=by rw [bne_iff_ne];omega
      have f2:((s[j].toNat:Int) != 10)=false:=by rw [bne_eq_false_iff_eq];omega
      clear hq hns;go_wp2;go_round
      case rel=>exact⟨j+1,false,by omega,by omega,by go_num,rfl,H.out⟩
      case measure=>simp [intOf];omega
     ·have H:=aA (hq.trans (wE hjl hns (by simp [gE,h])));have f1:((s[j].toNat:Int) != 32)=true:=by rw [bne_iff_ne];omega
      have f2:((s[j].toNat:Int) != 10)=true:=by rw [bne_iff_ne];omega
      have f3:((s[j].toNat:Int) != 9)=false:=by rw [bne_eq_false_iff_eq];omega
      clear hq hns;go_wp2;go_round
      case rel=>exact⟨j+1,false,by omega,by omega,by go_num,rfl,H.out⟩
      case measure=>simp [intOf];omega
     ·have H:=aA (hq.trans (rH hns (fun _=>by simp [gE,h1,h2,h3])));have f1:((s[j].toNat:Int) != 32)=true:=by rw [bne_iff_ne];omega
      have f2:((s[j].toNat:Int) != 10)=true:=by rw [bne_iff_ne];omega
      have f3:((s[j].toNat:Int) != 9)=true:=by rw [bne_iff_ne];omega
      clear hq hns;go_wp2;go_ret;exact⟨by rw [H.out];rfl,rfl⟩
  ·have H:=aA (hq.trans (show skipTo fl s j=j by unfold skipTo;rw [fH s j (by omega)];cases fl<;>simp [kC]));clear hq;go_wp2;go_ret;exact⟨by rw [H.out];rfl,rfl⟩
end Go.Proofs.YtdnnmjhfidimcaaGreatDoor
