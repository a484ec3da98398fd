/- What text.Take answers, for any text: its reader, method by method. What text.Take answers, for any text: its reader's larger methods, and Take. -/
import Derived.Test.YtdnnmjhfidimcaaGreatDoorJoint6
import Derived.Deep.RegionLaw
namespace Go.Proofs.YtdnnmjhfidimcaaGreatDoor
set_option maxRecDepth 100000
set_option maxHeartbeats 1600000
open Go.RowKit
def Rdr (s:ByteArray) (B b k:Nat) (acc:List UInt8) (w:World):Prop:=Has 137 [.string s,.int .i64 (k:Int)] B b acc w
theorem sB:CH 137 4:=⟨by kernel_rfl,by decide⟩
def lookN:List UInt8→Nat
 | []=>0
 | c::_=>c.toNat
theorem Rdr.text {s:ByteArray} {B b k:Nat} {acc:List UInt8} {w:World} (h:Rdr s B b k acc w):w.cell? ⟨b,2,none⟩=some (.string s):=Has.cell (j:=0) h rfl
theorem Rdr.at {s:ByteArray} {B b k:Nat} {acc:List UInt8} {w:World} (h:Rdr s B b k acc w):w.cell? ⟨b,3,none⟩=some (.int .i64 (k:Int)):=Has.cell (j:=1) h rfl
theorem Rdr.drew {s:ByteArray} {B b k:Nat} {acc:List UInt8} {w:World} (h:Rdr s B b k acc w):Rdr s B b k acc w.drew:=Has.drew h
theorem Rdr.on {s:ByteArray} {B b k:Nat} {acc:List UInt8} {w:World} (h:Rdr s B b k acc w) (n:Int) (hn:n=((k+1:Nat):Int)):Rdr s B b (k+1) acc (w.setCell ⟨b,3,none⟩ (.int .i64 n)):=by
 subst hn;exact Has.put h 1 _
theorem Rdr.low {s:ByteArray} {B b k:Nat} {acc:List UInt8} {w:World} (h:Rdr s B b k acc w):B≤b:=by obtain⟨_,_,h⟩:=h;exact h.low
theorem Rdr.size {s:ByteArray} {B b k:Nat} {acc:List UInt8} {w:World} (h:Rdr s B b k acc w):B≤w.heap.size:=Nat.le_trans h.low (Nat.le_of_lt (Has.lt h))
theorem oR (s:ByteArray) (B b k:Nat) (acc:List UInt8) (hk:k≤s.size) (w:World) (h:Rdr s B b k acc w) :
  Calls Tryz.prog 181 #[.pointer (some ⟨b,0,none⟩)] w fun e w'=>e=.returned (.int .u8 (lookN (s.data.toList.drop k):Int))∧Rdr s B b k acc w'∧Below B w w':=by
 have ct:=h.text;have ca:=h.at;have HR:=aA h;by_cases hkl:k<s.size
 ·have e1:((k:Int)==(s.size:Int))=false:=beq_eq_false_iff_ne.2 (by omega);have Hl:=aA (show lookN (s.data.toList.drop k)=s[k].toNat by rw [dU s k hkl];rfl);clear h;go_enter Tryz.func181,Tryz.ntmps181;go_wp2;go_region;all_goals (go_wp2;go_region)
  all_goals (go_wp2;go_ret;exact⟨by rw [Hl.out];rfl,HR.out.drew.drew,(Below.refl B w).drew.drew⟩)
 ·have e1:((k:Int)==(s.size:Int))=true:=beq_iff_eq.2 (by omega);have Hl:=aA (show lookN (s.data.toList.drop k)=0 by rw [hX s k (by omega)];rfl);clear h;go_enter Tryz.func181,Tryz.ntmps181;go_wp2;go_region;all_goals (go_wp2;go_ret;exact⟨by rw [Hl.out];rfl,HR.out.drew,(Below.refl B w).drew⟩)
theorem pV (s:ByteArray) (hs:s.size≤1000000) (B b k:Nat) (acc:List UInt8) (c:Nat) (hk:k≤s.size) (w:World) (h:Rdr s B b k acc w) (hl:lookN (s.data.toList.drop k)=c) :
  Calls Tryz.prog 169 #[.pointer (some ⟨b,0,none⟩),.int .u8 (c:Int)] w fun e w'=>e=.returned (.bool true)∧Rdr s B b (k+1) acc w'∧Below B w w':=by
 have HL:=aA hl;clear hl;go_enter Tryz.func169,Tryz.ntmps169;go_wp2_with fail;refine (oR s B b k acc hk _ h).mono ?_;rintro e w1 ⟨rfl,h1,b1⟩;rw [HL.out];have ca:=h1.at;have fa:w1.frozen? ⟨b,3,none⟩=false:=Has.free h1 3;have H1:=aA h1;have B1:=aA b1;clear h h1 b1;go_wp2;go_ret;exact⟨rfl,H1.out.on _ (by go_num),B1.out.setCell (p:=⟨b,3,none⟩) H1.out.low _⟩
theorem mA (s:ByteArray) (B b k:Nat) (acc:List UInt8) (c:Nat) (hk:k≤s.size) (w:World) (h:Rdr s B b k acc w) (hl:lookN (s.data.toList.drop k)≠c) :
  Calls Tryz.prog 169 #[.pointer (some ⟨b,0,none⟩),.int .u8 (c:Int)] w fun e w'=>e=.returned (.bool false)∧Rdr s B b k acc w'∧Below B w w':=by
 go_enter Tryz.func169,Tryz.ntmps169;go_wp2_with fail;refine (oR s B b k acc hk _ h).mono ?_;rintro e w1 ⟨rfl,h1,b1⟩;have e1:((lookN (s.data.toList.drop k):Int) != (c:Int))=true:=bne_iff_ne.2 (by omega);have H1:=aA h1;have B1:=aA b1;clear h h1 b1;go_wp2;go_ret;exact⟨rfl,H1.out,B1.out⟩
def Bh (n:Nat):Nat:=if eY n=16 then 0 else eY n
def ME (n:Nat):Bool:=decide (eY n≠16)
theorem CO {n m:Nat} (h:eY n=m) (hm:m≠16):Bh n=m∧ME n=true:=by
 unfold Bh ME;rw [h];simp [hm]
theorem CP {n:Nat} (h:eY n=16):Bh n=0∧ME n=false:=by
 unfold Bh ME;rw [h];simp
theorem Ew (n:Nat) (w:World) :
  Calls Tryz.prog 194 #[.int .u8 (n:Int)] w fun e w'=>e=.returned (.tuple #[.int .u8 (Bh n:Int),.bool (ME n)])∧w=w':=by
 by_cases hd:bX n
 ·have hd2:48≤n∧n≤57:=by simpa [bX] using hd
  have H:=aA (CO (n:=n) (m:=n - 48) (by unfold eY;rw [if_pos hd2]) (by omega));obtain⟨d1,d2⟩:=hd2;go_enter Tryz.func194,Tryz.ntmps194;go_wp2_with fail;refine (iO n _).mono ?_;rintro e w1 ⟨rfl,rfl⟩;go_wp2;go_ret2;refine⟨?_,rfl⟩;rw [H.out.1,H.out.2];simp;omega
 ·have hd2:¬ (48≤n∧n≤57):=by simpa [bX] using hd
  rcases (show n<65∨(65≤n∧n≤70)∨(70<n∧n<97)∨(97≤n∧n≤102)∨102<n from by omega) with h | ⟨h1,h2⟩ | ⟨h1,h2⟩ | ⟨h1,h2⟩ | h
  ·have H:=aA (CP (n:=n) (by unfold eY;rw [if_neg hd2,if_neg (by omega),if_neg (by omega)]));clear hd2;go_enter Tryz.func194,Tryz.ntmps194;go_wp2_with fail;refine (iO n _).mono ?_;rintro e w1 ⟨rfl,rfl⟩;go_wp2;go_ret2;exact⟨by rw [H.out.1,H.out.2];rfl,rfl⟩
  ·have H:=aA (CO (n:=n) (m:=n - 55) (by unfold eY;rw [if_neg hd2,if_neg (by omega),if_pos (by omega)]) (by omega));clear hd2;go_enter Tryz.func194,Tryz.ntmps194;go_wp2_with fail;refine (iO n _).mono ?_;rintro e w1 ⟨rfl,rfl⟩;go_wp2;go_ret2;refine⟨?_,rfl⟩;rw [H.out.1,H.out.2];simp;omega
  ·have H:=aA (CP (n:=n) (by unfold eY;rw [if_neg hd2,if_neg (by omega),if_neg (by omega)]));have d:decide ((n:Int)≤70)=false:=decide_eq_false (by omega);clear hd2;go_enter Tryz.func194,Tryz.ntmps194;go_wp2_with fail;refine (iO n _).mono ?_;rintro e w1 ⟨rfl,rfl⟩;go_wp2;go_ret2;exact⟨by rw [H.out.1,H.out.2];rfl,rfl⟩
  ·have H:=aA (CO (n:=n) (m:=n - 87) (by unfold eY;rw [if_neg hd2,if_pos (by omega)]) (by omega));clear hd2;go_enter Tryz.func194,Tryz.ntmps194;go_wp2_with fail;refine (iO n _).mono ?_;rintro e w1 ⟨rfl,rfl⟩;go_wp2;go_ret2;refine⟨?_,rfl⟩;rw [H.out.1,H.out.2];simp;omega
  ·have H:=aA (CP (n:=n) (by unfold eY;rw [if_neg hd2,if_neg (by omega),if_neg (by omega)]));have d:decide ((n:Int)≤70)=false:=decide_eq_false (by omega);have d2:decide ((n:Int)≤102)=false:=decide_eq_false (by omega);clear hd2;go_enter Tryz.func194,Tryz.ntmps194;go_wp2_with fail;refine (iO n _).mono ?_;rintro e w1 ⟨rfl,rfl⟩;go_wp2;go_ret2;exact⟨by rw [H.out.1,H.out.2];rfl,rfl⟩
def sC:List UInt8→Option UInt8×Nat
 | []=>(none,0)
 | x::r=>if eY x.toNat=16 then (none,0) else
  match r with
  | []=>(none,1)
  | y::_=>if eY y.toNat=16 then (none,1) else (some (UInt8.ofNat (16*eY x.toNat+eY y.toNat)),2)
def pL:List UInt8→Option UInt8×Nat
 | []=>(none,0)
 | d::r=>if d.toNat=34∨d.toNat=92 then (some d,1) else if d.toNat≠120 then (none,0) else ((sC r).1,(sC r).2+1)
theorem Gz {c:UInt8} {r:List UInt8} (hc:c.toNat=92):iM (c::r)=((pL r).1,(pL r).2+1):=by
 have hp:iY 92=false:=by decide
 simp only [iM,hc,hp];rw [if_neg (by decide),if_neg (by decide)];cases r with
 | nil=>rfl
 | cons d r2=>
  simp only [pL];split
  ·rfl
  ·split
   ·rfl
   ·cases r2 with
    | nil=>rfl
    | cons x r3=>
     simp only [sC];split
     ·rfl
     ·cases r3 with
      | nil=>rfl
      | cons y r4=>
       simp only [];split<;>rfl
def yB (xs:List UInt8):Nat:=xs.foldl (fun a x=>16*a+eY x.toNat) 0
structure GA (l xs rest:List UInt8) (j:Nat):Prop where
 len:xs.length=j
 all:l=xs++rest
 good:∀ x∈xs,eY x.toNat≠16
theorem GB (l:List UInt8):GA l [] l 0:=⟨rfl,rfl,by simp⟩
theorem KJ {l xs rest:List UInt8} {j:Nat} {x:UInt8} (h:GA l xs (x::rest) j) (hx:eY x.toNat≠16):GA l (xs++[x]) rest (j+1):=
 ⟨by simp [h.len],by simp [h.all],by intro y hy;rcases List.mem_append.1 hy with h1 | h1;exact h.good y h1;simp at h1;subst h1;exact hx⟩
theorem MF {l xs rest:List UInt8} {j:Nat} (h:GA l xs rest j) (hj:j<2) (hb:eY (lookN rest)=16):sC l=(none,j):=by
 have hl:=h.len;have hg:=h.good;rw [h.all];match xs,hl with
 | [],hl=>
  subst hl;cases rest with
  | nil=>rfl
  | cons x r=>simp [lookN] at hb;simp [sC,hb]
 | [x],hl=>
  subst hl;have hx:=hg x (by simp);cases rest with
  | nil=>simp [sC,hx]
  | cons y r=>simp [lookN] at hb;simp [sC,hx,hb]
 | _::_::_,hl=>simp at hl;omega
theorem MG {l xs rest:List UInt8} (h:GA l xs rest 2):sC l=(some (UInt8.ofNat (yB xs)),2)∧yB xs<256:=by
 have hl:=h.len;have hg:=h.good;rw [h.all];match xs,hl with
 | [x,y],_=>
  have hx:=hg x (by simp);have hy:=hg y (by simp);have h1:=sX x.toNat;have h2:=sX y.toNat;constructor
  ·simp [sC,hx,hy,yB]
  ·simp [yB];omega
theorem GC {l xs rest:List UInt8} {j:Nat} (h:GA l xs rest j) (hj:j<2):yB xs<16:=by
 have hl:=h.len;have hg:=h.good;match xs,hl with
 | [],_=>simp [yB]
 | [x],_=>
  have hx:=hg x (by simp);have h1:=sX x.toNat;simp [yB];omega
 | _::_::_,hl=>simp at hl;omega
theorem KL (xs:List UInt8) (x:UInt8):yB (xs++[x])=16*yB xs+eY x.toNat:=by simp [yB]
theorem PY {n:Nat} (h:ME n=false):eY n=16:=by simpa [ME] using h
theorem yL {n:Nat} (h:ME n=true):eY n≠16∧Bh n=eY n:=by
 have h1:eY n≠16:=by simpa [ME] using h
 exact⟨h1,by simp [Bh,h1]⟩
theorem MH:ME 0=false:=by decide
theorem MI {m v:Nat} (hm:m<16) (hv:v<16):bits BinOp.or IntKind.u8 ((m:Int)*16) (v:Int)=((16*m+v:Nat):Int):=by
 have h:∀ m v:Fin 16,bits BinOp.or IntKind.u8 ((m.val:Int)*16) (v.val:Int)=((16*m.val+v.val:Nat):Int):=by decide +kernel
 exact h ⟨m,hm⟩ ⟨v,hv⟩
theorem Ex {n:Nat} (h:n<256):(UInt8.ofNat n).toNat=n:=by
 rw [UInt8.toNat_ofNat'];omega
theorem Bi (s:ByteArray) (hs:s.size≤1000000) (B b k:Nat) (acc:List UInt8) (hk:k≤s.size) (ha:acc.length≤1000000) (w:World) (h:Rdr s B b k acc w) (o:Option UInt8) (n:Nat) (ho:sC (s.data.toList.drop k)=(o,n)) :
  Calls Tryz.prog 190 #[.pointer (some ⟨b,0,none⟩)] w fun e w'=>e=.returned (.bool o.isSome)∧Rdr s B b (k+n) (acc++o.toList) w'∧Below B w w':=by
 have HR:=aA h;have HO:=aA ho;have hF:=sB;clear h ho;go_enter Tryz.func190,Tryz.ntmps190;go_wp2_with fail;go_loopw [3,4,5,6] (fun v _ _ i wr=>∃ (j m:Nat) (xs:List UInt8),j≤2∧k+j≤s.size∧i=.int .i64 (j:Int)∧v=.int .u8 (m:Int)∧m=yB xs∧GA (s.data.toList.drop k) xs (s.data.toList.drop (k+j)) j∧Rdr s B b (k+j) acc wr∧Below B w wr) (fun _ _ _ i _=>2 - (intOf i).toNat)
 case atStart=>exact⟨0,0,[],by omega,by omega,rfl,rfl,rfl,GB _,HR.out,Below.refl _ _⟩
 case round=>
  clear HR;obtain⟨j,m,xs,hj,hkj,rfl,rfl,hm,hN,hR,hB⟩:=hrel;have HN:=aA hN;have HR:=aA hR;have HB:=aA hB;have HM:=aA hm;clear hN hR hB hm;by_cases hj2:j<2
  ·have hm16:m<16:=by rw [HM.out];exact GC HN.out hj2
   go_wp2_with fail;refine (oR s B b (k+j) acc hkj _ HR.out).mono ?_;rintro e w1 ⟨rfl,h1,b1⟩;have H1:=aA h1;have B1:=aA (HB.out.trans b1);clear h1 b1;go_wp2_with fail;refine (Ew _ _).mono ?_;rintro e w2 ⟨rfl,rfl⟩;cases hok:ME (lookN (s.data.toList.drop (k+j)))
   ·have H:=aA (MF HN.out hj2 (PY hok));generalize lookN (s.data.toList.drop (k+j))=c at *
    go_wp2;go_ret;have hoo:=H.out.symm.trans HO.out;simp only [Prod.mk.injEq] at hoo;obtain⟨rfl,rfl⟩:=hoo;exact⟨rfl,by simpa using H1.out,B1.out⟩
   ·have hkl:k+j<s.size:=by
     rcases Nat.lt_or_ge (k+j) s.size with h' | h'
     ·exact h'
     ·rw [hX s _ h'] at hok;simp [lookN,MH] at hok
    have hd:=dU s (k+j) hkl;have hlk:lookN (s.data.toList.drop (k+j))=s[k+j].toNat:=by rw [hd];rfl
    have hstep:=HN.out;rw [hd] at hstep;rw [hlk] at hok;have HS:=aA (KJ hstep (yL hok).1);have Hv:=aA (show Bh s[k+j].toNat=eY s[k+j].toNat from (yL hok).2);have hv16:Bh s[k+j].toNat<16:=by
     rw [(yL hok).2];have:=sX s[k+j].toNat;have:=(yL hok).1;omega
    have HV:=aA (KL xs s[k+j]);rw [hlk];clear hd hlk hstep;have ca:=H1.out.at;have fa:w1.frozen? ⟨b,3,none⟩=false:=Has.free H1.out 3;have Hor:=aA (MI hm16 hv16);go_wp2;refine⟨⟨j+1,16*m+Bh s[k+j].toNat,xs++[s[k+j]],by omega,by omega,by go_num,by rw [Hor.out],?_,?_,?_,?_⟩,?_⟩
    ·rw [HV.out,Hv.out,HM.out]
    ·exact HS.out
    ·exact H1.out.on _ (by go_num)
    ·exact B1.out.setCell (p:=⟨b,3,none⟩) H1.out.low _
    ·simp [intOf];omega
  ·have hj3:j=2:=by omega
   subst hj3;obtain⟨he,hlt⟩:=MG HN.out;have hoo:=he.symm.trans HO.out;simp only [Prod.mk.injEq] at hoo;obtain⟨rfl,rfl⟩:=hoo;have Hlt:=aA hlt;clear he hlt;go_wp2_with fail;refine (dD _ _ _ _ acc (UInt8.ofNat (yB xs)) _ (by rw [HM.out,Ex Hlt.out]) _ HR.out hF (by omega) HR.out.size).mono ?_;rintro e w3 ⟨rfl,h3,b3⟩;have H3:=aA h3;have B3:=aA (HB.out.trans b3);clear h3 b3;go_wp2;go_ret;exact⟨rfl,H3.out,B3.out⟩
theorem CQ (s:ByteArray) (hs:s.size≤1000000) (B b k:Nat) (acc:List UInt8) (hk:k≤s.size) (ha:acc.length≤1000000) (w:World) (h:Rdr s B b k acc w) (o:Option UInt8) (n:Nat) (ho:pL (s.data.toList.drop k)=(o,n)) :
  Calls Tryz.prog 182 #[.pointer (some ⟨b,0,none⟩)] w fun e w'=>e=.returned (.bool o.isSome)∧Rdr s B b (k+n) (acc++o.toList) w'∧Below B w w':=by
 have HR:=aA h;have hF:=sB;clear h;by_cases h120:lookN (s.data.toList.drop k)=120
 ·have hkl:k<s.size:=by
   rcases Nat.lt_or_ge k s.size with h' | h'
   ·exact h'
   ·rw [hX s k h'] at h120;simp [lookN] at h120
  have hd:=dU s k hkl;have hc:s[k].toNat=120:=by rw [hd] at h120;exact h120
  have ho2:∃ n',n=n'+1∧sC (s.data.toList.drop (k+1))=(o,n'):=by
   rw [hd] at ho;simp only [pL,hc] at ho;rw [if_neg (by decide),if_neg (by decide)] at ho;simp only [Prod.mk.injEq] at ho;exact⟨_,ho.2.symm,by rw [← ho.1]⟩
  obtain⟨n',rfl,hn'⟩:=ho2;have HN:=aA hn';have H120:=aA h120;clear hd hc ho hn' h120;go_enter Tryz.func182,Tryz.ntmps182;go_wp2_with fail;refine (pV s hs B b k acc 120 hk _ HR.out H120.out).mono ?_;rintro e w1 ⟨rfl,h1,b1⟩;have H1:=aA h1;have B1:=aA b1;clear h1 b1;go_wp2_with fail;refine (Bi s hs B b (k+1) acc hkl ha _ H1.out o n' HN.out).mono ?_;rintro e w2 ⟨rfl,h2,b2⟩;have H2:=aA h2;have B2:=aA (B1.out.trans b2);clear h2 b2;go_wp2;go_ret;exact⟨rfl,by rw [show k+(n'+1)=k+1+n' from by omega];exact H2.out,B2.out⟩
 ·have H120:=aA h120;by_cases h34:lookN (s.data.toList.drop k)=34
  ·have hkl:k<s.size:=by
    rcases Nat.lt_or_ge k s.size with h' | h'
    ·exact h'
    ·rw [hX s k h'] at h34;simp [lookN] at h34
   have hd:=dU s k hkl;have hc:s[k].toNat=34:=by rw [hd] at h34;exact h34
   have ho2:o=some 34∧n=1:=by
    rw [hd] at ho;simp only [pL,hc] at ho;rw [if_pos (by decide)] at ho;simp only [Prod.mk.injEq] at ho;exact⟨by rw [← ho.1,show s[k]=34 from UInt8.toNat_inj.1 hc],ho.2.symm⟩
   obtain⟨rfl,rfl⟩:=ho2;have H34:=aA h34;clear hd hc ho h34 h120;go_enter Tryz.func182,Tryz.ntmps182;go_wp2_with fail;refine (mA s B b k acc 120 hk _ HR.out H120.out).mono ?_;rintro e w1 ⟨rfl,h1,b1⟩;have H1:=aA h1;have B1:=aA b1;clear h1 b1;go_wp2_with fail;refine (pV s hs B b k acc 34 hk _ H1.out H34.out).mono ?_;rintro e w2 ⟨rfl,h2,b2⟩;have H2:=aA h2;have B2:=aA (B1.out.trans b2);clear h2 b2;go_wp2_with fail;refine (dD _ _ _ _ acc 34 _ rfl _ H2.out hF (by omega) H2.out.size).mono ?_;rintro e w3 ⟨rfl,h3,b3⟩;have H3:=aA h3;have B3:=aA (B2.out.trans b3);clear h3 b3;go_wp2;go_ret;exact⟨rfl,H3.out,B3.out⟩
  ·have H34:=aA h34;by_cases h92:lookN (s.data.toList.drop k)=92
   ·have hkl:k<s.size:=by
     rcases Nat.lt_or_ge k s.size with h' | h'
     ·exact h'
     ·rw [hX s k h'] at h92;simp [lookN] at h92
    have hd:=dU s k hkl;have hc:s[k].toNat=92:=by rw [hd] at h92;exact h92
    have ho2:o=some 92∧n=1:=by
     rw [hd] at ho;simp only [pL,hc] at ho;rw [if_pos (by decide)] at ho;simp only [Prod.mk.injEq] at ho;exact⟨by rw [← ho.1,show s[k]=92 from UInt8.toNat_inj.1 hc],ho.2.symm⟩
    obtain⟨rfl,rfl⟩:=ho2;have H92:=aA h92;clear hd hc ho h34 h120 h92;go_enter Tryz.func182,Tryz.ntmps182;go_wp2_with fail;refine (mA s B b k acc 120 hk _ HR.out H120.out).mono ?_;rintro e w1 ⟨rfl,h1,b1⟩;have H1:=aA h1;have B1:=aA b1;clear h1 b1;go_wp2_with fail;refine (mA s B b k acc 34 hk _ H1.out H34.out).mono ?_;rintro e w1a ⟨rfl,h1a,b1a⟩;have H1a:=aA h1a;have B1a:=aA (B1.out.trans b1a);clear h1a b1a;go_wp2_with fail;refine (pV s hs B b k acc 92 hk _ H1a.out H92.out).mono ?_;rintro e w2 ⟨rfl,h2,b2⟩;have H2:=aA h2;have B2:=aA (B1a.out.trans b2);clear h2 b2;go_wp2_with fail;refine (dD _ _ _ _ acc 92 _ rfl _ H2.out hF (by omega) H2.out.size).mono ?_;rintro e w3 ⟨rfl,h3,b3⟩;have H3:=aA h3;have B3:=aA (B2.out.trans b3);clear h3 b3;go_wp2;go_ret;exact⟨rfl,H3.out,B3.out⟩
   ·have ho2:o=none∧n=0:=by
     cases hd:s.data.toList.drop k with
     | nil=>rw [hd] at ho;simp [pL] at ho;exact⟨ho.1.symm,ho.2.symm⟩
     | cons c r=>
      rw [hd] at ho h120 h34 h92;simp only [lookN] at h120 h34 h92;simp only [pL] at ho;rw [if_neg (by omega),if_pos h120] at ho;simp only [Prod.mk.injEq] at ho;exact⟨ho.1.symm,ho.2.symm⟩
    obtain⟨rfl,rfl⟩:=ho2;have H92:=aA h92;clear ho h34 h120 h92;go_enter Tryz.func182,Tryz.ntmps182;go_wp2_with fail;refine (mA s B b k acc 120 hk _ HR.out H120.out).mono ?_;rintro e w1 ⟨rfl,h1,b1⟩;have H1:=aA h1;have B1:=aA b1;clear h1 b1;go_wp2_with fail;refine (mA s B b k acc 34 hk _ H1.out H34.out).mono ?_;rintro e w1a ⟨rfl,h1a,b1a⟩;have H1a:=aA h1a;have B1a:=aA (B1.out.trans b1a);clear h1a b1a;go_wp2_with fail;refine (mA s B b k acc 92 hk _ H1a.out H92.out).mono ?_;rintro e w2 ⟨rfl,h2,b2⟩;have H2:=aA h2;have B2:=aA (B1a.out.trans b2);clear h2 b2;go_wp2;go_ret;exact⟨rfl,by simpa using H2.out,B2.out⟩
theorem BP (s:ByteArray) (hs:s.size≤1000000) (B b k:Nat) (acc:List UInt8) (hk:k≤s.size) (ha:acc.length≤1000000) (w:World) (h:Rdr s B b k acc w) (o:Option UInt8) (n:Nat) (ho:iM (s.data.toList.drop k)=(o,n)) :
  Calls Tryz.prog 170 #[.pointer (some ⟨b,0,none⟩)] w fun e w'=>e=.returned (.bool o.isSome)∧Rdr s B b (k+n) (acc++o.toList) w'∧Below B w w':=by
 have HR:=aA h;have hF:=sB;clear h;by_cases h92:lookN (s.data.toList.drop k)=92
 ·have hkl:k<s.size:=by
   rcases Nat.lt_or_ge k s.size with h' | h'
   ·exact h'
   ·rw [hX s k h'] at h92;simp [lookN] at h92
  have hd:=dU s k hkl;have hc:s[k].toNat=92:=by rw [hd] at h92;exact h92
  have ho2:∃ n',n=n'+1∧pL (s.data.toList.drop (k+1))=(o,n'):=by
   rw [hd,Gz hc] at ho;simp only [Prod.mk.injEq] at ho;exact⟨_,ho.2.symm,by rw [← ho.1]⟩
  obtain⟨n',rfl,hn'⟩:=ho2;have HN:=aA hn';have H92:=aA h92;clear hd hc ho hn' h92;go_enter Tryz.func170,Tryz.ntmps170;go_wp2_with fail;refine (pV s hs B b k acc 92 hk _ HR.out H92.out).mono ?_;rintro e w1 ⟨rfl,h1,b1⟩;have H1:=aA h1;have B1:=aA b1;clear h1 b1;go_wp2_with fail;refine (CQ s hs B b (k+1) acc hkl ha _ H1.out o n' HN.out).mono ?_;rintro e w2 ⟨rfl,h2,b2⟩;have H2:=aA h2;have B2:=aA (B1.out.trans b2);clear h2 b2;go_wp2;go_ret;exact⟨rfl,by rw [show k+(n'+1)=k+1+n' from by omega];exact H2.out,B2.out⟩
 ·have H92:=aA h92;by_cases hp:iY (lookN (s.data.toList.drop k))
  ·have hkl:k<s.size:=by
    rcases Nat.lt_or_ge k s.size with h' | h'
    ·exact h'
    ·rw [hX s k h'] at hp;simp [lookN,iY] at hp
   have hd:=dU s k hkl;have hlk:lookN (s.data.toList.drop k)=s[k].toNat:=by rw [hd];rfl
   have hc:iY s[k].toNat=true:=by rw [← hlk];exact hp
   have ho2:o=some s[k]∧n=1:=by
    rw [hd] at ho;simp only [iM] at ho;rw [if_pos hc] at ho;simp only [Prod.mk.injEq] at ho;exact⟨ho.1.symm,ho.2.symm⟩
   obtain⟨rfl,rfl⟩:=ho2;have HL:=aA hlk;clear hd ho h92 hlk;go_enter Tryz.func170,Tryz.ntmps170;go_wp2_with fail;refine (mA s B b k acc 92 hk _ HR.out H92.out).mono ?_;rintro e w1 ⟨rfl,h1,b1⟩;have H1:=aA h1;have B1:=aA b1;clear h1 b1;go_wp2_with fail;refine (oR s B b k acc hk _ H1.out).mono ?_;rintro e w2 ⟨rfl,h2,b2⟩;rw [HL.out];have H2:=aA h2;have B2:=aA (B1.out.trans b2);have ca:=h2.at;have fa:w2.frozen? ⟨b,3,none⟩=false:=Has.free h2 3;clear h2 b2 hp;go_wp2_with fail;refine (rY s[k].toNat _).mono ?_;rintro e w3 ⟨rfl,rfl⟩;have H3:=aA (H2.out.on ((k:Int)+1) (by omega));have B3:=aA (B2.out.setCell (p:=⟨b,3,none⟩) H2.out.low (.int .i64 ((k:Int)+1)));go_wp2_with fail;refine (dD _ _ _ _ acc s[k] _ rfl _ H3.out hF (by omega) H3.out.size).mono ?_;rintro e w4 ⟨rfl,h4,b4⟩;have H4:=aA h4;have B4:=aA (B3.out.trans b4);clear h4 b4;go_wp2;go_ret;exact⟨rfl,H4.out,B4.out⟩
  ·have ho2:o=none∧n=0:=by
    cases hd:s.data.toList.drop k with
    | nil=>rw [hd] at ho;simp [iM] at ho;exact⟨ho.1.symm,ho.2.symm⟩
    | cons c r=>
     rw [hd] at ho h92 hp;simp only [lookN] at h92 hp;simp only [iM] at ho;rw [if_neg hp,if_pos h92] at ho;simp only [Prod.mk.injEq] at ho;exact⟨ho.1.symm,ho.2.symm⟩
   obtain⟨rfl,rfl⟩:=ho2;clear ho h92;go_enter Tryz.func170,Tryz.ntmps170;go_wp2_with fail;refine (mA s B b k acc 92 hk _ HR.out H92.out).mono ?_;rintro e w1 ⟨rfl,h1,b1⟩;have H1:=aA h1;have B1:=aA b1;clear h1 b1;go_wp2_with fail;refine (oR s B b k acc hk _ H1.out).mono ?_;rintro e w2 ⟨rfl,h2,b2⟩;have H2:=aA h2;have B2:=aA (B1.out.trans b2);clear h2 b2;go_wp2_with fail;refine (rY _ _).mono ?_;rintro e w3 ⟨rfl,rfl⟩;go_wp2;go_ret;exact⟨rfl,by simpa using H2.out,B2.out⟩
end Go.Proofs.YtdnnmjhfidimcaaGreatDoor
