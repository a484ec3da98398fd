/- Bytes and runs of bytes. Blanks and notes. -/
import Derived.Test.YtdnnmjhfidimcaaGreatDoorJoint1
import Derived.Test.YtdnnmjhfidimcaaGreatDoorJoint6
import Derived.Lib.Strings
namespace Go.Proofs.YtdnnmjhfidimcaaGreatDoor
open Go.RowKit
theorem kO (n:Nat) (w:World) :
  Calls Tryz.prog 93 #[.int .u8 (n:Int)] w fun e w'=>e=.returned (.bool (bX n))∧w=w':=by
 rcases (show n<48∨(48≤n∧n≤57)∨57<n from by omega) with h | ⟨h1,h2⟩ | h
 ·have H:=aA (show bX n=false by simp [bX];omega);go_enter Tryz.func93,Tryz.ntmps93;go_wp2;go_ret;exact⟨by rw [H.out];rfl,rfl⟩
 ·have H:=aA (show bX n=true by simp [bX];omega);have d:decide ((n:Int)≤57)=true:=decide_eq_true (by omega);go_enter Tryz.func93,Tryz.ntmps93;go_wp2;go_ret;exact⟨by rw [H.out];rfl,rfl⟩
 ·have H:=aA (show bX n=false by simp [bX];omega);have d:decide ((n:Int)≤57)=false:=decide_eq_false (by omega);go_enter Tryz.func93,Tryz.ntmps93;go_wp2;go_ret;exact⟨by rw [H.out];rfl,rfl⟩
theorem jU (n:Nat) (w:World) :
  Calls Tryz.prog 91 #[.int .u8 (n:Int)] w fun e w'=>e=.returned (.bool (bW n))∧w=w':=by
 rcases (show n<65∨(65≤n∧n≤90)∨(91≤n∧n≤94)∨n=95∨n=96∨(97≤n∧n≤122)∨122<n from by omega) with h | h | h | h | h | h | h
 ·have H:=aA (show bW n=false by simp [bW];omega);have e:((n:Int)==95)=false:=beq_eq_false_iff_ne.2 (by omega);go_enter Tryz.func91,Tryz.ntmps91;go_wp2;go_ret;exact⟨by rw [H.out];rfl,rfl⟩
 ·have H:=aA (show bW n=true by simp [bW];omega);obtain⟨h1,h2⟩:=h;go_enter Tryz.func91,Tryz.ntmps91;go_wp2;go_ret;exact⟨by rw [H.out];rfl,rfl⟩
 ·have H:=aA (show bW n=false by simp [bW];omega);have e:((n:Int)==95)=false:=beq_eq_false_iff_ne.2 (by omega);obtain⟨h1,h2⟩:=h;have d:decide ((n:Int)≤90)=false:=decide_eq_false (by omega);go_enter Tryz.func91,Tryz.ntmps91;go_wp2;go_ret;exact⟨by rw [H.out];rfl,rfl⟩
 ·subst h;go_enter Tryz.func91,Tryz.ntmps91;go_wp2;go_ret;exact⟨rfl,rfl⟩
 ·subst h;go_enter Tryz.func91,Tryz.ntmps91;go_wp2;go_ret;exact⟨rfl,rfl⟩
 ·have H:=aA (show bW n=true by simp [bW];omega);obtain⟨h1,h2⟩:=h;go_enter Tryz.func91,Tryz.ntmps91;go_wp2;go_ret;exact⟨by rw [H.out];rfl,rfl⟩
 ·have H:=aA (show bW n=false by simp [bW];omega);have e:((n:Int)==95)=false:=beq_eq_false_iff_ne.2 (by omega);have d:decide ((n:Int)≤90)=false:=decide_eq_false (by omega);have d2:decide ((n:Int)≤122)=false:=decide_eq_false (by omega);go_enter Tryz.func91,Tryz.ntmps91;go_wp2;go_ret;exact⟨by rw [H.out];rfl,rfl⟩
theorem xN (n:Nat) (w:World) :
  Calls Tryz.prog 88 #[.int .u8 (n:Int)] w fun e w'=>e=.returned (.bool (iA n))∧w=w':=by
 rcases (show n=32∨n=10∨n=9∨(n≠32∧n≠10∧n≠9) from by omega) with rfl | rfl | rfl | ⟨h1,h2,h3⟩
 ·go_enter Tryz.func88,Tryz.ntmps88;go_wp2;go_ret;exact⟨rfl,rfl⟩
 ·go_enter Tryz.func88,Tryz.ntmps88;go_wp2;go_ret;exact⟨rfl,rfl⟩
 ·go_enter Tryz.func88,Tryz.ntmps88;go_wp2;go_ret;exact⟨rfl,rfl⟩
 ·have H:=aA (show iA n=false by simp [iA,h1,h2,h3]);have e1:((n:Int)==32)=false:=beq_eq_false_iff_ne.2 (by omega);have e2:((n:Int)==10)=false:=beq_eq_false_iff_ne.2 (by omega);have e3:((n:Int)==9)=false:=beq_eq_false_iff_ne.2 (by omega);go_enter Tryz.func88,Tryz.ntmps88;go_wp2;go_ret;exact⟨by rw [H.out];rfl,rfl⟩
theorem Ak (n:Nat) (w:World) :
  Calls Tryz.prog 90 #[.int .u8 (n:Int)] w fun e w'=>e=.returned (.bool (kZ n))∧w=w':=by
 rcases (show n=10∨n≠10 from by omega) with rfl | h
 ·go_enter Tryz.func90,Tryz.ntmps90;go_wp2;go_ret;exact⟨rfl,rfl⟩
 ·have H:=aA (show kZ n=true by simp [kZ,h]);have e2:((n:Int) != 10)=true:=by rw [bne_iff_ne];omega
  go_enter Tryz.func90,Tryz.ntmps90;go_wp2;go_ret;exact⟨by rw [H.out];rfl,rfl⟩
theorem vH (n:Nat) (w:World) :
  Calls Tryz.prog 125 #[.int .u8 (n:Int)] w fun e w'=>e=.returned (.bool (fN n))∧w=w':=by
 cases h1:bW n with
 | true=>
  have H:=aA (show fN n=true by simp [fN,h1]);have H1:=aA h1;clear h1;go_enter Tryz.func125,Tryz.ntmps125;go_wp2_with fail;refine (jU n _).mono ?_;rintro e w1 ⟨rfl,rfl⟩;rw [H1.out];go_wp2;go_ret;exact⟨by rw [H.out];rfl,rfl⟩
 | false=>
  have H:=aA (show fN n=bX n by simp [fN,h1]);have H1:=aA h1;clear h1;go_enter Tryz.func125,Tryz.ntmps125;go_wp2_with fail;refine (jU n _).mono ?_;rintro e w1 ⟨rfl,rfl⟩;rw [H1.out];go_wp2_with fail;refine (kO n _).mono ?_;rintro e w1 ⟨rfl,rfl⟩;go_wp2;go_ret;exact⟨by rw [H.out];rfl,rfl⟩
theorem rZ
  (s:ByteArray) (hs:s.size≤1000000) (k:Nat) (hk:k≤s.size) (w:World) :
  Calls Tryz.prog 87 #[.string s,.int .i64 k,.func (.func 88) #[] #[]] w fun e w'=>e=.returned (.int .i64 (runTo iA s k))∧w=w':=by
 go_enter Tryz.func87,Tryz.ntmps87;go_wp2;go_loop [1] (fun i=>∃ j:Nat,k≤j∧j≤s.size∧i=.int .i64 j∧runTo iA s k=runTo iA s j) (fun i=>s.size - (intOf i).toNat)
 case atStart=>exact⟨k,Nat.le_refl _,hk,rfl,rfl⟩
 case round=>
  obtain⟨j,hkj,hj,rfl,hrun⟩:=hrel;by_cases hjl:j<s.size
  ·cases hpj:iA s[j].toNat with
   | true=>
    have H:=aA (hrun.trans (nI hjl hpj));have Hp:=aA hpj;clear hrun hpj;go_wp2_with fail;refine (xN _ _).mono ?_;rintro e w1 ⟨rfl,rfl⟩;rw [Hp.out];go_wp2;go_round
    case rel=>exact⟨j+1,by omega,by omega,by go_num,H.out⟩
    case measure=>simp [intOf];omega
   | false=>
    have H:=aA (hrun.trans (mQ hjl hpj));have Hp:=aA hpj;clear hrun hpj;go_wp2_with fail;refine (xN _ _).mono ?_;rintro e w1 ⟨rfl,rfl⟩;rw [Hp.out];go_wp2;go_ret;exact⟨by rw [H.out];rfl,rfl⟩
  ·have H:=aA (hrun.trans (lO (by omega)));clear hrun;go_wp2;go_ret;exact⟨by rw [H.out];rfl,rfl⟩
theorem Bg
  (s:ByteArray) (hs:s.size≤1000000) (k:Nat) (hk:k≤s.size) (w:World) :
  Calls Tryz.prog 87 #[.string s,.int .i64 k,.func (.func 90) #[] #[]] w fun e w'=>e=.returned (.int .i64 (runTo kZ s k))∧w=w':=by
 go_enter Tryz.func87,Tryz.ntmps87;go_wp2;go_loop [1] (fun i=>∃ j:Nat,k≤j∧j≤s.size∧i=.int .i64 j∧runTo kZ s k=runTo kZ s j) (fun i=>s.size - (intOf i).toNat)
 case atStart=>exact⟨k,Nat.le_refl _,hk,rfl,rfl⟩
 case round=>
  obtain⟨j,hkj,hj,rfl,hrun⟩:=hrel;by_cases hjl:j<s.size
  ·cases hpj:kZ s[j].toNat with
   | true=>
    have H:=aA (hrun.trans (nI hjl hpj));have Hp:=aA hpj;clear hrun hpj;go_wp2_with fail;refine (Ak _ _).mono ?_;rintro e w1 ⟨rfl,rfl⟩;rw [Hp.out];go_wp2;go_round
    case rel=>exact⟨j+1,by omega,by omega,by go_num,H.out⟩
    case measure=>simp [intOf];omega
   | false=>
    have H:=aA (hrun.trans (mQ hjl hpj));have Hp:=aA hpj;clear hrun hpj;go_wp2_with fail;refine (Ak _ _).mono ?_;rintro e w1 ⟨rfl,rfl⟩;rw [Hp.out];go_wp2;go_ret;exact⟨by rw [H.out];rfl,rfl⟩
  ·have H:=aA (hrun.trans (lO (by omega)));clear hrun;go_wp2;go_ret;exact⟨by rw [H.out];rfl,rfl⟩
theorem pK
  (s:ByteArray) (hs:s.size≤1000000) (k:Nat) (hk:k≤s.size) (w:World) :
  Calls Tryz.prog 87 #[.string s,.int .i64 k,.func (.func 125) #[] #[]] w fun e w'=>e=.returned (.int .i64 (runTo fN s k))∧w=w':=by
 go_enter Tryz.func87,Tryz.ntmps87;go_wp2;go_loop [1] (fun i=>∃ j:Nat,k≤j∧j≤s.size∧i=.int .i64 j∧runTo fN s k=runTo fN s j) (fun i=>s.size - (intOf i).toNat)
 case atStart=>exact⟨k,Nat.le_refl _,hk,rfl,rfl⟩
 case round=>
  obtain⟨j,hkj,hj,rfl,hrun⟩:=hrel;by_cases hjl:j<s.size
  ·cases hpj:fN s[j].toNat with
   | true=>
    have H:=aA (hrun.trans (nI hjl hpj));have Hp:=aA hpj;clear hrun hpj;go_wp2_with fail;refine (vH _ _).mono ?_;rintro e w1 ⟨rfl,rfl⟩;rw [Hp.out];go_wp2;go_round
    case rel=>exact⟨j+1,by omega,by omega,by go_num,H.out⟩
    case measure=>simp [intOf];omega
   | false=>
    have H:=aA (hrun.trans (mQ hjl hpj));have Hp:=aA hpj;clear hrun hpj;go_wp2_with fail;refine (vH _ _).mono ?_;rintro e w1 ⟨rfl,rfl⟩;rw [Hp.out];go_wp2;go_ret;exact⟨by rw [H.out];rfl,rfl⟩
  ·have H:=aA (hrun.trans (lO (by omega)));clear hrun;go_wp2;go_ret;exact⟨by rw [H.out];rfl,rfl⟩
theorem sA
  (s:ByteArray) (hs:s.size≤1000000) (k:Nat) (hk:k≤s.size) (w:World) :
  Calls Tryz.prog 87 #[.string s,.int .i64 k,.func (.func 93) #[] #[]] w fun e w'=>e=.returned (.int .i64 (runTo bX s k))∧w=w':=by
 go_enter Tryz.func87,Tryz.ntmps87;go_wp2;go_loop [1] (fun i=>∃ j:Nat,k≤j∧j≤s.size∧i=.int .i64 j∧runTo bX s k=runTo bX s j) (fun i=>s.size - (intOf i).toNat)
 case atStart=>exact⟨k,Nat.le_refl _,hk,rfl,rfl⟩
 case round=>
  obtain⟨j,hkj,hj,rfl,hrun⟩:=hrel;by_cases hjl:j<s.size
  ·cases hpj:bX s[j].toNat with
   | true=>
    have H:=aA (hrun.trans (nI hjl hpj));have Hp:=aA hpj;clear hrun hpj;go_wp2_with fail;refine (kO _ _).mono ?_;rintro e w1 ⟨rfl,rfl⟩;rw [Hp.out];go_wp2;go_round
    case rel=>exact⟨j+1,by omega,by omega,by go_num,H.out⟩
    case measure=>simp [intOf];omega
   | false=>
    have H:=aA (hrun.trans (mQ hjl hpj));have Hp:=aA hpj;clear hrun hpj;go_wp2_with fail;refine (kO _ _).mono ?_;rintro e w1 ⟨rfl,rfl⟩;rw [Hp.out];go_wp2;go_ret;exact⟨by rw [H.out];rfl,rfl⟩
  ·have H:=aA (hrun.trans (lO (by omega)));clear hrun;go_wp2;go_ret;exact⟨by rw [H.out];rfl,rfl⟩
theorem pT (s:ByteArray) (a b:Nat):(s.extract a b).data.toList=(s.data.toList.drop a).take (b - a):=by
 rw [ByteArray.data_extract,Array.toList_extract,List.extract_eq_take_drop]
theorem Eu (s:ByteArray) {a b:Nat} (hb:b≤s.size):(s.extract a b).size=b - a:=by
 rw [← cF,pT,List.length_take,List.length_drop,cF];omega
theorem pU (s:ByteArray) (k:Nat):(s.extract k s.size).data.toList=s.data.toList.drop k:=by
 rw [pT,List.take_of_length_le];rw [List.length_drop,cF];exact Nat.le_refl _
def nY (p l:List UInt8):Bool:=p.isPrefixOf l
theorem Gx {s p:ByteArray} (h:s.size<p.size):nY p.data.toList s.data.toList=false:=by
 cases h1:nY p.data.toList s.data.toList with
 | false=>rfl
 | true=>
  have:=(List.isPrefixOf_iff_prefix.1 h1).length_le;rw [cF,cF] at this;omega
theorem KG {s p:ByteArray} (_h:p.size≤s.size):((s.extract 0 p.size).toList==p.toList)=nY p.data.toList s.data.toList:=by
 rw [Lib.toList_data,Lib.toList_data,pT,Bool.eq_iff_iff,beq_iff_eq,nY,List.isPrefixOf_iff_prefix,List.prefix_iff_eq_take,cF];simp only [List.drop_zero,Nat.sub_zero];exact eq_comm
theorem Gy (s p:ByteArray) (w:World) :
  Calls Tryz.prog 124 #[.string s,.string p] w fun e w'=>e=.returned (.bool (nY p.data.toList s.data.toList))∧w=w':=by
 by_cases h:p.size≤s.size
 ·have H:=aA (KG h);go_enter Tryz.func124,Tryz.ntmps124;go_wp2;go_ret;exact⟨by rw [← H.out];rfl,rfl⟩
 ·have H:=aA (Gx (s:=s) (p:=p) (by omega));go_enter Tryz.func124,Tryz.ntmps124;go_wp2;go_ret;exact⟨by rw [H.out];rfl,rfl⟩
theorem lH (s p:ByteArray) (w:World) :
  Calls Tryz.prog 89 #[.string s,.string p] w fun e w'=>e=.returned (.bool (nY p.data.toList s.data.toList))∧w=w':=by
 go_enter Tryz.func89,Tryz.ntmps89;go_wp2_with fail;refine (Gy s p _).mono ?_;rintro e w1 ⟨rfl,rfl⟩;go_wp2;go_ret;exact⟨rfl,rfl⟩
theorem vI (l:List UInt8):nY [47,47] l=gA l:=by
 match l with
 | []=>rfl
 | [a]=>simp [nY,gA,List.isPrefixOf]
 | a::b::r=>
  have e:∀ c:UInt8,((47:UInt8)==c)=decide (c.toNat=47):=by
   intro c;rw [Bool.eq_iff_iff,beq_iff_eq,decide_eq_true_iff];constructor
   ·rintro rfl;rfl
   ·intro h;exact (UInt8.toNat_inj.1 (by rw [h];rfl))
  simp [nY,gA,List.isPrefixOf,e]
theorem Al (s:ByteArray) (hs:s.size≤1000000) (k:Nat) (hk:k≤s.size) (w:World) :
  Calls Tryz.prog 62 #[.string s,.int .i64 k] w fun e w'=>e=.returned (.int .i64 (skipTo false s k))∧w=w':=by
 go_enter Tryz.func62,Tryz.ntmps62;go_wp2;go_loop [1] (fun i=>∃ j:Nat,k≤j∧j≤s.size∧i=.int .i64 j∧skipTo false s k=skipTo false s j) (fun i=>s.size - (intOf i).toNat)
 case atStart=>exact⟨k,Nat.le_refl _,hk,rfl,rfl⟩
 case round=>
  obtain⟨j,hkj,hj,rfl,hrun⟩:=hrel;have h1:=oJ iA s j;have h2:=uX (p:=iA) hj;have hst:=fun h=>Fh (p:=iA) (s:=s) (k:=j) h
  have e1:=hrun.trans (tR _ j (Nat.le_refl _));generalize hm:runTo iA s j=m at *
  have Hm:=aA hm;clear hm hrun;cases hsl:gA (s.data.toList.drop m) with
  | false=>
   have H:=aA (e1.trans (Fi hsl hst));have Hp:=aA (show nY [47,47] (s.extract m s.size).data.toList=false by rw [pU,vI,hsl]);clear e1 hst hsl;go_wp2_with fail;refine (rZ s hs j hj _).mono ?_;rintro e w1 ⟨rfl,rfl⟩;rw [Hm.out];go_wp2_with fail;refine (lH _ _ _).mono ?_;rintro e w1 ⟨rfl,rfl⟩;rw [Hp.out];go_wp2;go_ret;exact⟨by rw [H.out];rfl,rfl⟩
  | true=>
   have H:=aA (e1.trans (yZ hsl));have Hp:=aA (show nY [47,47] (s.extract m s.size).data.toList=true by rw [pU,vI,hsl]);have hml:m<s.size:=by
    rcases Nat.lt_or_ge m s.size with h | h
    ·exact h
    ·rw [hX s m h] at hsl;simp [gA] at hsl
   have h3:m<runTo kZ s m:=by
    have h47:kZ s[m].toNat=true:=by
     rw [dU s m hml] at hsl;cases hd:s.data.toList.drop (m+1) with
     | nil=>rw [hd] at hsl;simp [gA] at hsl
     | cons c r=>rw [hd] at hsl;simp [gA] at hsl;simp [kZ,hsl.1]
    rw [nI hml h47];have:=oJ kZ s (m+1);omega
   have h4:=uX (p:=kZ) h2;clear e1 hst hsl;go_wp2_with fail;refine (rZ s hs j hj _).mono ?_;rintro e w1 ⟨rfl,rfl⟩;rw [Hm.out];go_wp2_with fail;refine (lH _ _ _).mono ?_;rintro e w1 ⟨rfl,rfl⟩;rw [Hp.out];go_wp2_with fail;refine (Bg s hs m h2 _).mono ?_;rintro e w1 ⟨rfl,rfl⟩;generalize runTo kZ s m=q at *
   go_wp2;go_round
   case rel=>exact⟨q,by omega,by omega,by rfl,H.out⟩
   case measure=>simp [intOf];omega
end Go.Proofs.YtdnnmjhfidimcaaGreatDoor
