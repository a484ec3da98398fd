/- There is an end among a text's tokens, and each has a place. Bytes of the call's own that grow. Slices of tokens of the call's own. All tokens of a text, as the program reads them. What follows of what Parse tells. -/
import Derived.Test.YtdnnmjhfidimcaaGreatDoorJoint2
import Derived.Test.YtdnnmjhfidimcaaGreatDoorTxtPlain
import Derived.Test.YtdnnmjhfidimcaaGreatDoorBld
import Derived.Laws.BytesArg
import Derived.Deep.RegionLaw
import Derived.Test.YtdnnmjhfidimcaaGreatDoorJoint10
import Derived.Test.YtdnnmjhfidimcaaGreatDoorJoint30
import Derived.Test.YtdnnmjhfidimcaaGreatDoorJoint8
import Derived.Test.YtdnnmjhfidimcaaGreatDoorPsMay
namespace Go.Proofs.YtdnnmjhfidimcaaGreatDoor
set_option maxHeartbeats 1600000
set_option maxRecDepth 100000
open Go.RowKit
theorem PX {l:List UInt8} {k:Nat} (h:(cO l k).2.2=0):k<(cO l k).2.1∧(cO l k).2.1≤k+l.length∧(cO l k).1.pl=k:=by
 match l with
 | []=>simp [cO] at h
 | b::r=>
  unfold cO at h ⊢;simp only at h ⊢;by_cases hl:bW b.toNat=true
  ·rw [if_pos hl] at h ⊢;have h1:=sY fN (b::r);have h2:0<jW fN (b::r):=by rw [jW,if_pos (xK hl)];omega
   unfold jY at h ⊢;split
   ·exact⟨by simp only;omega,by simp only;omega,rfl⟩
   ·rename_i hk;rw [if_neg hk] at h;split
    ·exact⟨by simp only;omega,by simp only;omega,rfl⟩
    ·rename_i hm;rw [if_neg hm] at h;cases h
  ·rw [if_neg hl] at h ⊢;by_cases hd:bX b.toNat=true
   ·rw [if_pos hd] at h ⊢;have h1:=sY bX (b::r);have h2:0<jW bX (b::r):=by rw [jW,if_pos hd];omega
    unfold kM at h ⊢;split
    ·exact⟨by simp only;omega,by simp only;omega,rfl⟩
    ·rename_i hk;rw [if_neg hk] at h;exact absurd h hk
   ·rw [if_neg hd] at h ⊢;by_cases h34:b.toNat=34
    ·rw [if_pos h34] at h ⊢;have h3:(takeOut (b::r)).2.2=0:=by
      unfold mR at h;by_cases h3:(takeOut (b::r)).2.2=0
      ·exact h3
      ·rw [if_neg h3] at h;exact h
     have hg:takeOut (b::r)=((takeOut (b::r)).1,(takeOut (b::r)).2.1,0):=by rw [← h3]
     obtain⟨r',e',hgo⟩:=yX hg;obtain⟨body,rest,y,er,en,_,_⟩:=rK _ _ _ _ _ _ hgo;have hlen:(b::r).length=body.length+rest.length+2:=by rw [e',er];simp;omega
     unfold mR at h ⊢;rw [if_pos h3] at h ⊢;split
     ·rename_i hk;rw [if_pos hk] at h;cases h
     ·exact⟨by simp only;omega,by simp only;omega,rfl⟩
    ·rw [if_neg h34] at h ⊢;unfold nQ at h ⊢;by_cases hk:signL (b::r)=[]
     ·rw [if_pos hk] at h;cases h
     ·rw [if_neg hk];have hp:∀ L:List (List UInt8),gB L (b::r)≠[]→(gB L (b::r)).length≤(b::r).length:=by
       intro L;induction L with
       | nil=>intro h;exact absurd rfl h
       | cons x L ih=>
        intro h;rw [gB] at h ⊢;split
        ·rename_i hx;exact (List.isPrefixOf_iff_prefix.1 hx).length_le
        ·rename_i hx;rw [if_neg hx] at h;exact ih h
      have h1:=hp sgnL hk;have h2:=List.length_pos_iff.2 hk;refine⟨?_,?_,rfl⟩
      ·simp only;omega
      ·simp only;unfold signL;omega
theorem El (s:ByteArray):∀ (f k:Nat) (acc out:List Tok) (p:Nat),jI s f k acc=(out,p,0)→0<f→s.size<k+f→k≤s.size→
  ∃ new,out=acc++new∧(∃ t∈new,t.kind=6)∧∀ t∈new,∃ a:Nat,t.pl=a∧k≤a∧a≤s.size
 | 0,_,_,_,_,_,h0,_,_=>by omega
 | f+1,k,acc,out,p,h,_,hf,hk=>by
  rw [jI] at h;split at h
  ·rename_i hks;injection h with h1 h2;exact⟨_,h1.symm,⟨_,List.mem_singleton.2 rfl,rfl⟩,fun t ht=>by rw [List.mem_singleton.1 ht];exact⟨s.size,rfl,hk,Nat.le_refl _⟩⟩
  ·rename_i hks;split at h
   ·rename_i he;injection h with h1 h2;injection h2 with h2 h3;exact absurd h3 he
   ·rename_i he;have he0:(cO (s.data.toList.drop k) k).2.2=0:=by simpa using he
    split at h
    ·injection h with h1 h2;injection h2 with h2 h3;cases h3
    ·obtain⟨g1,g2,g3⟩:=PX he0;rw [List.length_drop,cF] at g2;have g4:=Bv false s (cO (s.data.toList.drop k) k).2.1;have g5:=sZ (f:=false) (s:=s) (k:=(cO (s.data.toList.drop k) k).2.1) (by omega);obtain⟨new,e1,e2,e3⟩:=El s f _ _ out p h (by omega) (by omega) g5;refine⟨(cO (s.data.toList.drop k) k).1::new,by rw [e1];simp,by obtain⟨u,u1,u2⟩:=e2;exact⟨u,List.mem_cons_of_mem _ u1,u2⟩,fun t ht=>?_⟩;rcases List.mem_cons.1 ht with rfl | ht
     ·exact⟨k,g3,Nat.le_refl _,by omega⟩
     ·obtain⟨a,a1,a2,a3⟩:=e3 t ht;exact⟨a,a1,by omega,a3⟩
theorem Oy {s:ByteArray} {out:List Tok} {p:Nat} (h:tokOut s=(out,p,0)):(∃ t∈out,t.kind=6)∧∀ t∈out,∃ a:Nat,t.pl=a∧a≤s.size:=by
 unfold tokOut at h;split at h
 ·injection h with h1 h2;injection h2 with h2 h3;cases h3
 ·have hk:=sZ (f:=false) (s:=s) (k:=0) (Nat.zero_le _);obtain⟨new,en,nn,nt⟩:=El s _ _ _ _ _ h (by omega) (by omega) hk;rw [List.nil_append] at en;subst en;exact⟨nn,fun t ht=>by obtain⟨a,a1,_,a3⟩:=nt t ht;exact⟨a,a1,a3⟩⟩
def fV (l:List Tok):List Value:=l.flatMap Tok.cells
theorem yC (l m:List Tok):fV (l++m)=fV l++fV m:=by simp [fV]
theorem CS (l:List Tok):∀ u∈fV l,u.oneCell'=true:=by
 intro u hu;simp only [fV,List.mem_flatMap,Tok.cells] at hu;obtain⟨t,_,hu⟩:=hu;simp at hu;rcases hu with rfl | rfl | rfl | rfl<;>rfl
def NU (T:TypeId) (B:Nat) (v:Value) (l:List Tok) (w:World):Prop:=w.ownsRow B T 4 v l.length (fV l)
theorem yM (T:TypeId) (B:Nat) (w:World):NU T B (.slice none 0 0) [] w:=⟨rfl,.inl ⟨rfl,rfl⟩⟩
theorem BS {T:TypeId} {B:Nat} {v:Value} {l:List Tok} {w:World} (h:NU T B v l w):∃ ao cap,v=.slice ao l.length cap:=by
 rcases h.2 with ⟨h1,h2⟩ | ⟨g,cap,cur,h1,_⟩
 ·exact⟨none,0,by rw [h1,h2]⟩
 ·exact⟨_,_,h1⟩
theorem MK {T:TypeId} {B:Nat} {v:Value} {l:List Tok} {a b:World} (h:NU T B v l a) (k:Below a.heap.size a b):NU T B v l b:=by
 refine⟨h.1,?_⟩;rcases h.2 with h1 | ⟨g,cap,cur,h1,h2,h3,h4⟩
 ·exact .inl h1
 ·refine .inr ⟨g,cap,cur,h1,h2,?_,h4⟩;rw [k.block g (by
   rcases Nat.lt_or_ge g a.heap.size with h | h
   ·exact h
   ·rw [Array.getElem?_eq_none h] at h3;cases h3)]
  exact h3
theorem Qz:∃ i0,Tryz.prog.info? 67=some i0∧i0.zero=some (.agg #[.int .i64 0,.string ⟨#[]⟩,.int .i64 0,.int .i64 0])∧i0.size=4∧i0.bytes=40:=
 info_parts (show (Tryz.prog.info? 67).map (fun i=>(i.zero,i.size,i.bytes))=some (some (.agg #[.int .i64 0,.string ⟨#[]⟩,.int .i64 0,.int .i64 0]),4,40) by kernel_rfl)
theorem PZ:Tryz.prog.underlying 62=some (.slice 67):=by kernel_rfl
theorem ID {ops:Array Oper} {rest:List Oper} {o:Oper} {a:Act} {Q:Exit→Act→World→Prop} {w:World} (hgd:o.guard=none) (s x:Operand)
  (ho:o.op=.call { callee:=.builtin .append,args:=#[s,x],argTypes:=#[62,62] })
  (B:Nat) (l:List Tok) (t:Tok) (cs:Array Value) (hcs:cs=t.cells.toArray) (v:Value) (hs:a.eval s=v) (hown:NU 67 B v l w)
  (nb:Nat) (hx:a.eval x=.slice (some ⟨nb,0,none⟩) 1 1) (hnb:nb=w.heap.size) (hlen:l.length≤1000000) (hB:B≤w.heap.size)
  (h:∀ v' w',NU 67 B v' (l++[t]) w'→Below B w w'→wpList Tryz.prog ops Q rest (a.put o.dst v') w') :
  wpList Tryz.prog ops Q (o::rest) a (w.alloc (.cells cs 67)):=by
 subst hnb;obtain⟨i0,hi,hz0,hz1,hz2⟩:=Qz;refine wpList_append_own _ hgd s x 62 ho B 67 i0 _ 4 40 PZ hi hz0 hz1 hz2 rfl (by decide) v _ _ hs (World.ownsRow.alloc hown _) ⟨w.heap.size,0,none⟩ 1 1 t.cells hx rfl ?_ ?_ (by unfold maxLen;omega) (by omega) (by simp;omega) ?_
 ·intro j u hj;have e:(⟨w.heap.size,0,none⟩:Addr).add j=⟨w.heap.size,j,none⟩:=by unfold Addr.add;split<;>simp_all
  rw [e,World.cell?_alloc_new,hcs];simpa using hj
 ·intro u hu;exact CS [t] u (by simpa [fV] using hu)
 ·intro v' w2 hown' hgrow _;refine h v' w2 ?_ ?_
  ·unfold NU;rw [yC,List.length_append];simpa [fV] using hown'
  ·exact ((Below.refl B w).alloc hB _).grown hgrow (by simp;omega) (fun k hk=>(hown.lt k hk).1)
/-! how far a token goes -/
theorem EC {p:Nat→Bool} {b:UInt8} {r:List UInt8} (h:p b.toNat=true):1≤jW p (b::r):=by simp [jW,h]
theorem vL:∀ (L:List (List UInt8)) (l:List UInt8),gB L l=[]∨(gB L l).isPrefixOf l=true
 | [],_=>.inl rfl
 | x::L,l=>by
  unfold gB;split
  ·right;assumption
  ·exact vL L l
theorem Qa {l:List UInt8} {k:Nat} (h:(cO l k).2.2=0):k<(cO l k).2.1∧(cO l k).2.1≤k+l.length:=by
 match l with
 | []=>simp [cO] at h
 | b::r=>
  unfold cO at h ⊢;simp only at h ⊢;by_cases hl:bW b.toNat=true
  ·rw [if_pos hl] at h ⊢;unfold jY at h ⊢;have h1:1≤jW fN (b::r):=EC (by simp [fN,hl]);have h2:=sY fN (b::r);split at h
   ·rename_i h3;rw [if_pos h3];exact⟨by simp only;omega,by simp only;omega⟩
   ·rename_i h3;rw [if_neg h3];split at h
    ·rename_i h4;rw [if_pos h4];exact⟨by simp only;omega,by simp only;omega⟩
    ·simp at h
  ·rw [if_neg hl] at h ⊢;by_cases hd:bX b.toNat=true
   ·rw [if_pos hd] at h ⊢;unfold kM at h ⊢;have h1:1≤jW bX (b::r):=EC hd;have h2:=sY bX (b::r);split at h
    ·rename_i h3;rw [if_pos h3];exact⟨by simp only;omega,by simp only;omega⟩
    ·rename_i h3;exact absurd h h3
   ·rw [if_neg hd] at h ⊢;by_cases h34:b.toNat=34
    ·rw [if_pos h34] at h ⊢;unfold mR at h ⊢;split at h
     ·rename_i h3;rw [if_pos h3];split at h
      ·simp at h
      ·rename_i h4;rw [if_neg h4];have hg:takeOut (b::r)=((takeOut (b::r)).1,(takeOut (b::r)).2.1,0):=by rw [← h3]
       have:=uV hg;exact⟨by simp only;omega,by simp only;omega⟩
     ·rename_i h3;exact absurd h h3
    ·rw [if_neg h34] at h ⊢;unfold nQ at h ⊢;split at h
     ·simp at h
     ·rename_i h3;rw [if_neg h3];have h4:0<(signL (b::r)).length:=List.length_pos_iff.2 h3;have h5:(signL (b::r)).length≤(b::r).length:=by
       rcases vL sgnL (b::r) with h6 | h6
       ·exact absurd h6 h3
       ·exact (List.isPrefixOf_iff_prefix.1 h6).length_le
      exact⟨by simp only;omega,by simp only;omega⟩
theorem Qb {s:ByteArray} {k:Nat} (hk:k≤s.size) (h:(cO (s.data.toList.drop k) k).2.2=0):k<(cO (s.data.toList.drop k) k).2.1∧(cO (s.data.toList.drop k) k).2.1≤s.size:=by
 have:=Qa h;rw [List.length_drop,cF] at this;omega
def tF (v:Value) (o:List Tok×Nat×Int):Ending:=.returned (.tuple #[v,.int .i64 o.2.1,.int .i64 o.2.2])
theorem vN (s:ByteArray) (hs:s.size≤1000000) (w:World) (h0:0<w.heap.size) (SG:Hid (iZ 0 sgnL w)) :
  Calls Tryz.prog 35 #[.string s] w fun e w'=>∃ v,e=tF v (tokOut s)∧NU 67 w.heap.size v (tokOut s).1 w'∧Below w.heap.size w w':=by
 by_cases hlong:2000<s.size
 ·have H:=aA (show tokOut s=([],0,3) by unfold tokOut;rw [if_pos hlong]);clear SG;go_enter Tryz.func35,Tryz.ntmps35;go_wp2;go_ret3
  exact⟨.slice none 0 0,by rw [H.out];rfl,by rw [H.out];exact yM _ _ _,Below.refl _ _⟩
 have hgo:tokOut s=jI s (s.size+1) (skipTo false s 0) []:=by unfold tokOut;rw [if_neg hlong]
 generalize tokOut s=out at *
 have hk0:=sZ (f:=false) (s:=s) (k:=0) (Nat.zero_le _);generalize hk:skipTo false s 0=k0 at *
 have Hk:=aA hk;have HG:=aA hgo;clear hk hgo;go_enter Tryz.func35,Tryz.ntmps35;go_wp2_with fail;refine (Al s hs 0 (Nat.zero_le _) _).mono ?_;rintro e w1 ⟨rfl,rfl⟩;rw [Hk.out];clear Hk;go_wp2;go_loopw [5,6] (fun l i wr=>∃ (j f:Nat) (acc:List Tok),j≤s.size∧i=.int .i64 j∧acc.length≤600∧s.size<j+f∧out=jI s f j acc∧NU 67 w.heap.size l acc wr∧Below w.heap.size w wr) (fun _ i _=>s.size - (intOf i).toNat)
 case atStart=>exact⟨k0,s.size+1,[],hk0,rfl,by decide,by omega,HG.out,yM _ _ _,Below.refl _ _⟩
 case round=>
  clear HG;obtain⟨j,f,acc,hj,rfl,hacc,hf,hout,hrow,hbel⟩:=hrel;obtain⟨f,rfl⟩:∃ f',f=f'+1:=⟨f - 1,by omega⟩
  obtain⟨ao,cap,rfl⟩:=BS hrow;have R:=aA hrow;have B:=aA hbel;have hsz:w.heap.size≤wr.heap.size:=hbel.size;clear hrow hbel;by_cases hjl:j<s.size
  ·have SG1:=aA (dJ SG.out h0 (B.out));have h1:0<wr.heap.size:=by omega
   have hto:=fun h=>Qb (s:=s) (k:=j) hj h
   have hbad:=fun he=>hout.trans (KB (acc:=acc) (f:=f) hjl rfl he)
   have hfull:=fun he hf=>hout.trans (Af (acc:=acc) (f:=f) hjl rfl he hf)
   have hmore:=fun he hf=>hout.trans (Ag (acc:=acc) (f:=f) hjl rfl he hf)
   generalize ho:cO (s.data.toList.drop j) j=o at *
   obtain⟨⟨t0,t1,t2,t3⟩,n,er⟩:=o;have Ho:=aA ho;clear ho hout;simp only at hto hbad hfull hmore;rcases (show er=0∨er≠0 from by omega) with rfl | hne
   ·have hto1:=hto rfl;by_cases h600:acc.length=600
    ·have H:=aA (hfull rfl h600);have e6:((acc.length:Int)==600)=true:=beq_iff_eq.2 (by omega);clear hbad hfull hmore hto;go_wp2_with fail;refine (uG s hs j hjl _ h1 SG1).mono ?_;rintro e w1 ⟨rfl,b1⟩;rw [Ho.out];have B1:=aA (aH B.out (Nat.le_refl _) b1);clear b1 SG1 R B;unfold TokOut.ending Tok.val;go_wp2;go_ret3
     exact⟨.slice none 0 0,by rw [H.out];rfl,by rw [H.out];exact yM _ _ _,B1.out.alloc B1.out.size _⟩
    ·have H:=aA (hmore rfl h600);have e6:((acc.length:Int)==600)=false:=beq_eq_false_iff_ne.2 (by omega);have hq1:=Bv false s n;have hq2:=sZ (f:=false) hto1.2;clear hbad hfull hmore hto;go_wp2_with fail;refine (uG s hs j hjl _ h1 SG1).mono ?_;rintro e w1 ⟨rfl,b1⟩;rw [Ho.out];have b2:=(Below.refl w1.heap.size w1).alloc (Nat.le_refl _) (.cells #[.int .i64 t0,.string t1,.int .i64 t2,.int .i64 t3] 67);have B1:=aA (aH (aH B.out (Nat.le_refl _) b1) (Nat.le_refl _) b2);have R1:=aA (MK (MK R.out b1) b2);have hsz1:w.heap.size≤(w1.alloc (.cells #[.int .i64 t0,.string t1,.int .i64 t2,.int .i64 t3] 67)).heap.size:=B1.out.size;clear b1 b2 SG1 R B;unfold TokOut.ending Tok.val;go_wp2_with (at_builtin;refine ID rfl _ _ rfl w.heap.size acc ⟨t0,t1,t2,t3⟩ _ rfl _ (by rfl) R1.out _ (by rfl) (by simp) (by omega) hsz1 ?_)
     intro v' w2 R2 b2;have R3:=aA R2;have B3:=aA (B1.out.trans b2);clear R1 B1 R2 b2 hsz1;go_wp2_with fail;refine (Al s hs n hto1.2 _).mono ?_;rintro e w3 ⟨rfl,rfl⟩;generalize skipTo false s n=q at *
     go_wp2;go_roundw
     case rel=>exact⟨q,f,acc++[⟨t0,t1,t2,t3⟩],hq2,rfl,by simp;omega,by omega,H.out,R3.out,B3.out⟩
     case measure=>simp [intOf];omega
   ·have H:=aA (hbad hne);have en:(er != 0)=true:=by rw [bne_iff_ne];exact hne
    clear hbad hfull hmore hto;go_wp2_with fail;refine (uG s hs j hjl _ h1 SG1).mono ?_;rintro e w1 ⟨rfl,b1⟩;rw [Ho.out];have B1:=aA (aH B.out (Nat.le_refl _) b1);clear b1 SG1 R B;unfold TokOut.ending Tok.val;go_wp2;go_ret3
    exact⟨.slice none 0 0,by rw [H.out];rfl,by rw [H.out];exact yM _ _ _,B1.out.alloc B1.out.size _⟩
  ·have H:=aA (hout.trans (BM (by omega)));clear hout;go_wp2_with (at_builtin;refine ID rfl _ _ rfl w.heap.size acc ⟨6,⟨#[]⟩,0,s.size⟩ _ rfl _ (by rfl) R.out _ (by rfl) (by simp) (by omega) hsz ?_)
   intro v' w2 R2 B2;go_wp2;go_ret3
   exact⟨v',by rw [H.out];rfl,by rw [H.out];exact R2,B.out.trans B2⟩
theorem Ch (g:Nd→Nd):∀ ks:List Nd,(∀ x∈ks,fF (g x)=fF x)→hD (ks.map g)=hD ks
 | [],_=>rfl
 | x::r,h=>by
  rw [List.map_cons,hD,hD,h x (by simp),Ch g r (fun y hy=>h y (by simp [hy]))]
theorem Np (t:Nd):fF (zN t)=fF t:=by
 refine Nd.ind (P:=fun t=>fF (zN t)=fF t) ?_ t;intro k o n s ns ks p ih;rw [fO,fF,fF,Ch zN ks ih]
theorem Hf {t:Nd} (h:checkN t=0) {s:ByteArray} (hs:s.data.toList=lL t) (hl:s.size≤2000) :
  (∃ p,tokOut s=([],p,5))∨∃ f0,∀ f,f0≤f→∃ m,iL f true s=(m,0,0)∧sameN m t=true:=by
 have hh:fF t≤12:=by
  rcases Nat.lt_or_ge 12 (fF t) with h1 | h1
  ·unfold checkN at h;rw [if_pos h1] at h;cases h
  ·exact h1
 have hr:rightN t 3=true:=by
  unfold checkN at h;rw [if_neg (by omega)] at h;split at h
  ·assumption
  ·cases h
 obtain⟨_,h2,h3⟩:=No (sI t) s (by rw [hs,GR]) (GU hr);by_cases hn:600<(aK (sI t)).length
 ·exact .inl (h2 hl hn)
 ·right;obtain⟨out,e1,e2⟩:=h3 hl (by omega);obtain⟨f0,hb⟩:=Hc hr;refine⟨f0,fun f hf=>?_⟩;have hz:out.map zt=(aK (sI t)++[AG]).map zt:=EQ (by rw [e2,List.map_append];rfl);have h4:=IT f out;have h5:=hb f hf;simp only at h5;rw [hz,← IT,h5] at h4;cases hp:qF f true out with
  | bad l=>rw [hp] at h4;cases h4
  | ok m b l=>
   rw [hp] at h4;injection h4 with e3 _ _;rw [zz] at e3;refine⟨m,?_,(Nn m t).2 e3⟩;have hm:fF m=fF t:=by rw [← Np m,e3,Np]
   unfold iL;rw [e1];simp only [hp];rw [if_neg (by simp),if_neg (by omega)]
theorem Ci {f:Nat} {s:ByteArray} (h:(iL f true s).2.2=0):checkN (iL f true s).1=0∧bH (iL f true s).1≤(tokOut s).1.length+1:=by
 have hg:GT (tokOut s).1:=wN s;have hm:=(yF f).stmts [] (tokOut s).1 (tokOut s).1 hg ⟨by simp,by simp,[],rfl,by simp [bU]⟩;unfold iL at h ⊢;split
 ·rename_i he;rw [if_pos he] at h;exact absurd h he
 ·rename_i he;rw [if_neg he] at h;cases hp:qF f true (tokOut s).1 with
  | bad l=>simp [hp] at h
  | ok t b l=>
   simp only [hp] at h ⊢;split
   ·rename_i hh;rw [if_pos hh] at h;cases h
   ·rename_i hh;unfold qF at hp;simp only [if_true] at hp;cases hq:eG f [] (tokOut s).1 with
    | bad l1=>rw [hq] at hp;cases hp
    | ok ns ts l1=>
     rw [hq] at hp hm;simp only [PL.bind,PR.bind] at hp;split at hp
     ·injection hp with e1 _ _;obtain⟨q1,q2,pre,q3,q4⟩:=hm;have hrt:Rt 3 (hJ 29 ts):=.block ts 0 q2 q1;have hr:=LI hrt;rw [e1] at hr;refine⟨?_,?_⟩
      ·unfold checkN;rw [if_neg hh,if_pos hr]
      ·rw [← e1];unfold hJ;rw [fT,q3];simp;omega
     ·cases hp
end Go.Proofs.YtdnnmjhfidimcaaGreatDoor
