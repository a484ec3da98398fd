/- What text.Quote answers, for any string. What text.IsName and the document's answer, for any text. How tight a sign is; a node that is one word. -/
import Derived.Test.YtdnnmjhfidimcaaGreatDoorBld
import Derived.Test.YtdnnmjhfidimcaaGreatDoorTxtPlain
import Derived.Handy
import Derived.Test.YtdnnmjhfidimcaaGreatDoorJoint3
import Derived.Test.YtdnnmjhfidimcaaGreatDoorJoint5
namespace Go.Proofs.YtdnnmjhfidimcaaGreatDoor
set_option maxRecDepth 100000
set_option maxHeartbeats 800000
open Go.RowKit
theorem rY (n:Nat) (w:World) :
  Calls Tryz.prog 179 #[.int .u8 (n:Int)] w fun e w'=>e=.returned (.bool (iY n))∧w=w':=by
 by_cases h1:32≤n
 ·by_cases h2:n≤126
  ·by_cases h3:n=34
   ·subst h3;go_enter Tryz.func179,Tryz.ntmps179;go_wp2;go_ret;exact⟨rfl,rfl⟩
   ·have e3:((n:Int) != 34)=true:=bne_iff_ne.2 (by omega);by_cases h4:n=92
    ·subst h4;go_enter Tryz.func179,Tryz.ntmps179;go_wp2;go_ret;exact⟨rfl,rfl⟩
    ·have e4:((n:Int) != 92)=true:=bne_iff_ne.2 (by omega);have H:=aA (show iY n=true by simp [iY];omega);clear h3 h4;go_enter Tryz.func179,Tryz.ntmps179;go_wp2;go_ret;exact⟨by rw [H.out];rfl,rfl⟩
  ·have H:=aA (show iY n=false by simp [iY];omega);go_enter Tryz.func179,Tryz.ntmps179;go_wp2;go_ret;exact⟨by rw [H.out];rfl,rfl⟩
 ·have H:=aA (show iY n=false by simp [iY];omega);go_enter Tryz.func179,Tryz.ntmps179;go_wp2;go_ret;exact⟨by rw [H.out];rfl,rfl⟩
theorem CJ:CH 51 2:=⟨by kernel_rfl,by decide⟩
theorem Eq (s:ByteArray) (hs:s.size≤1000000) (w:World) :
  Calls Tryz.prog 165 #[.string s] w fun e w'=>e=.returned (.string ⟨(kV s.data.toList).toArray⟩)∧Below w.heap.size w w':=by
 have hnew:=CI 51 [] w #[.pointer none,.slice none 0 0] rfl;have hF:=CJ;have hB:w.heap.size≤(w.alloc (.cells #[.pointer none,.slice none 0 0] 51)).heap.size:=by simp
 go_enter Tryz.func165,Tryz.ntmps165;go_wp2_with fail;refine (dD _ _ _ _ _ 34 _ rfl _ hnew hF (by simp) hB).mono ?_;rintro e w1 ⟨rfl,h1,b1⟩;have b0:Below w.heap.size w w1:=((Below.refl _ w).alloc (Nat.le_refl _) _).trans b1;clear hnew b1 hB;have H1:=aA h1;clear h1;go_wp2_with fail;go_loopw [4,5] (fun i _ wr=>∃ k:Nat,k≤s.size∧i=.int .i64 k∧Has 51 [] w.heap.size w.heap.size (34::jH (s.data.toList.take k)) wr∧Below w.heap.size w wr) (fun i _ _=>s.size - (intOf i).toNat)
 case atStart=>exact⟨0,Nat.zero_le _,rfl,H1.out,b0⟩
 case round=>
  clear H1 b0;obtain⟨k,hk,rfl,hh,hb⟩:=hrel;by_cases hkl:k<s.size
  ·have hc:=s[k].toNat_lt;have hlast:jH (s.data.toList.take (k+1))=jH (s.data.toList.take k)++lV s[k]:=by rw [Bs s k hkl,Fe]
   have hlen:(jH (s.data.toList.take k)).length≤4*1000000:=by
    have:=oA (s.data.toList.take k);rw [List.length_take] at this;omega
   have HL:=aA hlast;have Hlen:=aA hlen;have Hh:=aA hh;have Hb:=aA hb;clear hlast hlen hh hb;go_wp2_with fail;refine (rY s[k].toNat _).mono ?_;rintro e w2 ⟨rfl,rfl⟩;by_cases hp:iY s[k].toNat
   ·have Hq:Hid (lV s[k]=[s[k]]):=aA (by simp [lV,hp]);go_wp2_with fail;refine (dD _ _ _ _ _ s[k] _ rfl _ Hh.out hF (by simp;have:=Hlen.out;omega) Hb.out.size).mono ?_;rintro e w3 ⟨rfl,h3,b3⟩;have H3:=aA h3;have B3:=aA b3;clear h3 b3;go_wp2;go_roundw
    case rel=>exact⟨k+1,by omega,by go_num,by rw [HL.out,Hq.out];exact H3.out,Hb.out.trans B3.out⟩
    case measure=>simp [intOf];omega
   ·by_cases hq:s[k].toNat=34∨s[k].toNat=92
    ·have Hq:Hid (lV s[k]=[92,s[k]]):=aA (by simp [lV,hp,hq]);have Hor:=aA hq;clear hq;rcases Hor.out with h34 | h92
     ·have e34:((s[k].toNat:Int)==34)=true:=beq_iff_eq.2 (by omega);clear h34;go_wp2_with fail;refine (dD _ _ _ _ _ 92 _ rfl _ Hh.out hF (by simp;have:=Hlen.out;omega) Hb.out.size).mono ?_;rintro e w3 ⟨rfl,h3,b3⟩;have H3:=aA h3;have B3:=aA (Hb.out.trans b3);clear h3 b3;go_wp2_with fail;refine (dD _ _ _ _ _ s[k] _ rfl _ H3.out hF (by simp;have:=Hlen.out;omega) B3.out.size).mono ?_;rintro e w4 ⟨rfl,h4,b4⟩;have H4:=aA h4;have B4:=aA (B3.out.trans b4);clear h4 b4;go_wp2;go_roundw
      case rel=>exact⟨k+1,by omega,by go_num,by rw [HL.out,Hq.out];simpa using H4.out,B4.out⟩
      case measure=>simp [intOf];omega
     ·have e34:((s[k].toNat:Int)==34)=false:=beq_eq_false_iff_ne.2 (by omega);have e92:((s[k].toNat:Int)==92)=true:=beq_iff_eq.2 (by omega);clear h92;go_wp2_with fail;refine (dD _ _ _ _ _ 92 _ rfl _ Hh.out hF (by simp;have:=Hlen.out;omega) Hb.out.size).mono ?_;rintro e w3 ⟨rfl,h3,b3⟩;have H3:=aA h3;have B3:=aA (Hb.out.trans b3);clear h3 b3;go_wp2_with fail;refine (dD _ _ _ _ _ s[k] _ rfl _ H3.out hF (by simp;have:=Hlen.out;omega) B3.out.size).mono ?_;rintro e w4 ⟨rfl,h4,b4⟩;have H4:=aA h4;have B4:=aA (B3.out.trans b4);clear h4 b4;go_wp2;go_roundw
      case rel=>exact⟨k+1,by omega,by go_num,by rw [HL.out,Hq.out];simpa using H4.out,B4.out⟩
      case measure=>simp [intOf];omega
    ·have Hq:Hid (lV s[k]=[92,120,yV (s[k].toNat / 16),yV (s[k].toNat % 16)]):=aA (by simp only [lV];rw [if_neg hp,if_neg hq]);have e34:((s[k].toNat:Int)==34)=false:=beq_eq_false_iff_ne.2 (by omega);have e92:((s[k].toNat:Int)==92)=false:=beq_eq_false_iff_ne.2 (by omega);clear hq;go_wp2_with fail;refine (vG _ _ _ _ _ ⟨#[92,120]⟩ (by simp) _ Hh.out hF (by have:=Hlen.out;have e2:(⟨#[92,120]⟩:ByteArray).size=2:=rfl;rw [e2];simp;omega) Hb.out.size).mono ?_;rintro e w3 ⟨rfl,h3,b3⟩;have H3:=aA h3;have B3:=aA (Hb.out.trans b3);clear h3 b3;go_wp2_with fail;refine (dD _ _ _ _ _ (yV (s[k].toNat / 16)) _ (by rw [Bt]) _ H3.out hF (by simp;have:=Hlen.out;omega) B3.out.size).mono ?_;rintro e w4 ⟨rfl,h4,b4⟩;have H4:=aA h4;have B4:=aA (B3.out.trans b4);clear h4 b4;go_wp2_with fail;refine (dD _ _ _ _ _ (yV (s[k].toNat % 16)) _ (by rw [Bt]) _ H4.out hF (by simp;have:=Hlen.out;omega) B4.out.size).mono ?_;rintro e w5 ⟨rfl,h5,b5⟩;have H5:=aA h5;have B5:=aA (B4.out.trans b5);clear h5 b5;go_wp2;go_roundw
     case rel=>exact⟨k+1,by omega,by go_num,by rw [HL.out,Hq.out];simpa using H5.out,B5.out⟩
     case measure=>simp [intOf];omega
  ·have Hlen:Hid ((jH (s.data.toList.take k)).length≤4*1000000):=aA (by
    have:=oA (s.data.toList.take k);rw [List.length_take] at this
    omega)
   have He:Hid (s.data.toList.take k=s.data.toList):=aA (Dw s k (by omega));have Hh:=aA hh;have Hb:=aA hb;clear hh hb;go_wp2_with fail;refine (dD _ _ _ _ _ 34 _ rfl _ Hh.out hF (by simp;have:=Hlen.out;omega) Hb.out.size).mono ?_;rintro e w3 ⟨rfl,h3,b3⟩;have H3:=aA h3;have B3:=aA (Hb.out.trans b3);clear h3 b3;go_wp2_with fail;refine (qS _ _ _ _ _ _ H3.out).mono ?_;rintro e w4 ⟨rfl,b4,-⟩;have B4:=aA (B3.out.trans b4);clear b4;go_wp2;go_ret;refine⟨?_,B4.out⟩;rw [He.out];simp [kV]
theorem iO (n:Nat) (w:World) :
  Calls Tryz.prog 150 #[.int .u8 (n:Int)] w fun e w'=>e=.returned (.bool (bX n))∧w=w':=by
 rcases (show n<48∨(48≤n∧n≤57)∨57<n from by omega) with h | ⟨h1,h2⟩ | h
 ·have H:=aA (show bX n=false by simp [bX];omega);go_enter Tryz.func150,Tryz.ntmps150;go_wp2;go_ret;exact⟨by rw [H.out];rfl,rfl⟩
 ·have H:=aA (show bX n=true by simp [bX];omega);have d:decide ((n:Int)≤57)=true:=decide_eq_true (by omega);go_enter Tryz.func150,Tryz.ntmps150;go_wp2;go_ret;exact⟨by rw [H.out];rfl,rfl⟩
 ·have H:=aA (show bX n=false by simp [bX];omega);have d:decide ((n:Int)≤57)=false:=decide_eq_false (by omega);go_enter Tryz.func150,Tryz.ntmps150;go_wp2;go_ret;exact⟨by rw [H.out];rfl,rfl⟩
theorem CK (n:Nat) (w:World) :
  Calls Tryz.prog 151 #[.int .u8 (n:Int)] w fun e w'=>e=.returned (.bool (bW n))∧w=w':=by
 rcases (show n<65∨(65≤n∧n≤90)∨(91≤n∧n≤94)∨n=95∨n=96∨(97≤n∧n≤122)∨122<n from by omega) with h | h | h | h | h | h | h
 ·have H:=aA (show bW n=false by simp [bW];omega);have e:((n:Int)==95)=false:=beq_eq_false_iff_ne.2 (by omega);go_enter Tryz.func151,Tryz.ntmps151;go_wp2;go_ret;exact⟨by rw [H.out];rfl,rfl⟩
 ·have H:=aA (show bW n=true by simp [bW];omega);obtain⟨h1,h2⟩:=h;go_enter Tryz.func151,Tryz.ntmps151;go_wp2;go_ret;exact⟨by rw [H.out];rfl,rfl⟩
 ·have H:=aA (show bW n=false by simp [bW];omega);have e:((n:Int)==95)=false:=beq_eq_false_iff_ne.2 (by omega);obtain⟨h1,h2⟩:=h;have d:decide ((n:Int)≤90)=false:=decide_eq_false (by omega);go_enter Tryz.func151,Tryz.ntmps151;go_wp2;go_ret;exact⟨by rw [H.out];rfl,rfl⟩
 ·subst h;go_enter Tryz.func151,Tryz.ntmps151;go_wp2;go_ret;exact⟨rfl,rfl⟩
 ·subst h;go_enter Tryz.func151,Tryz.ntmps151;go_wp2;go_ret;exact⟨rfl,rfl⟩
 ·have H:=aA (show bW n=true by simp [bW];omega);obtain⟨h1,h2⟩:=h;go_enter Tryz.func151,Tryz.ntmps151;go_wp2;go_ret;exact⟨by rw [H.out];rfl,rfl⟩
 ·have H:=aA (show bW n=false by simp [bW];omega);have e:((n:Int)==95)=false:=beq_eq_false_iff_ne.2 (by omega);have d:decide ((n:Int)≤90)=false:=decide_eq_false (by omega);have d2:decide ((n:Int)≤122)=false:=decide_eq_false (by omega);go_enter Tryz.func151,Tryz.ntmps151;go_wp2;go_ret;exact⟨by rw [H.out];rfl,rfl⟩
def ld (c:UInt8):Bool:=bW c.toNat||bX c.toNat
theorem Er {s:ByteArray} (h:s.size=0):nameB s.data.toList=false:=by
 have:s.data.toList=[]:=List.length_eq_zero_iff.1 (by rw [cF];exact h);rw [this];rfl
theorem Gv {s:ByteArray} (h:12<s.size):nameB s.data.toList=false:=by
 have hl:=cF s;cases hs:s.data.toList with
 | nil=>rfl
 | cons c r=>rw [hs] at hl;simp at hl;simp [nameB];omega
theorem Es {s:ByteArray} (h:0<s.size) (hl:bW s[0].toNat=false):nameB s.data.toList=false:=by
 have:=dU s 0 h;rw [List.drop_zero] at this;rw [this];simp [nameB,hl]
theorem yA {n:Nat} (h:bX n=true):bW n=false:=by
 simp [bX] at h;simp [bW];omega
theorem KF {s:ByteArray} {k:Nat} (h:k<s.size) (hb:ld s[k]=false):nameB s.data.toList=false:=by
 have hm:s[k]∈s.data.toList:=by
  have:=dU s k h;have h2:s[k]∈s.data.toList.drop k:=by rw [this];simp
  exact List.mem_of_mem_drop h2
 cases hs:s.data.toList with
 | nil=>rfl
 | cons c r=>
  rw [hs] at hm;rcases List.mem_cons.1 hm with hc | hr
  ·have:bW c.toNat=false:=by rw [← hc];simp [ld] at hb;exact hb.1
   simp [nameB,this]
  ·have:r.all (fun x=>bW x.toNat||bX x.toNat)=false:=by
    rw [List.all_eq_false];exact⟨_,hr,by simp [ld] at hb;simp [hb]⟩
   simp [nameB,this]
theorem Gw {s:ByteArray} (h:0<s.size) (h12:s.size≤12) (hl:bW s[0].toNat=true) (ha:(s.data.toList.drop 1).all ld=true):nameB s.data.toList=true:=by
 have hlen:=cF s;have:=dU s 0 h;rw [List.drop_zero] at this;rw [this] at hlen ⊢;simp only [List.length_cons] at hlen;have ha':(s.data.toList.drop (0+1)).all (fun x=>bW x.toNat||bX x.toNat)=true:=ha;simp only [nameB,hl,ha',Bool.true_and];simp at hlen ⊢;omega
theorem Et {s:ByteArray} {k:Nat} (h:k<s.size) (ha:(s.data.toList.take k).all ld=true) (hb:ld s[k]=true):(s.data.toList.take (k+1)).all ld=true:=by
 rw [Bs s k h,List.all_append,ha];simp [hb]
theorem iP (s:ByteArray) (w:World) :
  Calls Tryz.prog 122 #[.string s] w fun e w'=>e=.returned (.bool (nameB s.data.toList))∧w=w':=by
 by_cases h0:s.size=0
 ·have H:=aA (Er h0);have he2:s.toList.isEmpty=true:=by
   rw [Lib.toList_data,List.length_eq_zero_iff.1 (show s.data.toList.length=0 by rw [cF];exact h0)];rfl
  clear h0;go_enter Tryz.func122,Tryz.ntmps122;go_wp2;go_ret;exact⟨by rw [H.out];rfl,rfl⟩
 ·have he2:s.toList.isEmpty=false:=by
   rw [Lib.toList_data];cases h:s.data.toList with
   | nil=>exact absurd (show s.size=0 by rw [← cF,h];rfl) h0
   | cons=>rfl
  have hpos:0<s.size:=by omega
  clear h0;by_cases h12:s.size≤12
  ·by_cases hd:bX s[0].toNat
   ·have H:=aA (Es hpos (yA hd));go_enter Tryz.func122,Tryz.ntmps122;go_wp2_with fail;refine (iO s[0].toNat _).mono ?_;rintro e w1 ⟨rfl,rfl⟩;go_wp2;go_ret;exact⟨by rw [H.out];rfl,rfl⟩
   ·have Hd:=aA hd;go_enter Tryz.func122,Tryz.ntmps122;go_wp2_with fail;refine (iO s[0].toNat _).mono ?_;rintro e w1 ⟨rfl,rfl⟩;go_wp2_with fail;clear hd;go_loop [3] (fun i=>∃ k:Nat,k≤s.size∧i=.int .i64 k∧(s.data.toList.take k).all ld=true) (fun i=>s.size - (intOf i).toNat)
    case atStart=>exact⟨0,Nat.zero_le _,rfl,rfl⟩
    case round=>
     obtain⟨k,hk,rfl,hall⟩:=hrel;have Ha:=aA hall;clear hall;by_cases hkl:k<s.size
     ·go_wp2_with fail;refine (CK s[k].toNat _).mono ?_;rintro e w1 ⟨rfl,rfl⟩;by_cases hl:bW s[k].toNat
      ·have Hn:=aA (Et hkl Ha.out (by simp [ld,hl]));go_wp2;go_round
       case rel=>exact⟨k+1,by omega,by go_num,Hn.out⟩
       case measure=>simp [intOf];omega
      ·go_wp2_with fail;refine (iO s[k].toNat _).mono ?_;rintro e w1 ⟨rfl,rfl⟩;by_cases hd:bX s[k].toNat
       ·have Hn:=aA (Et hkl Ha.out (by simp [ld,hd]));go_wp2;go_round
        case rel=>exact⟨k+1,by omega,by go_num,Hn.out⟩
        case measure=>simp [intOf];omega
       ·have H:=aA (KF hkl (by simp [ld,hl,hd]));go_wp2;go_ret;exact⟨by rw [H.out];rfl,rfl⟩
     ·have H:=aA (show nameB s.data.toList=true from by
       have ha:=Ha.out;rw [Dw s k (by omega)] at ha;have h1:=dU s 0 hpos;rw [List.drop_zero] at h1;rw [h1] at ha;rw [List.all_cons] at ha;have ha2:=Bool.and_eq_true_iff.1 ha;refine Gw hpos h12 ?_ ha2.2;have h3:=ha2.1;simp [ld] at h3;rcases h3 with h3 | h3
       ·exact h3
       ·exact absurd h3 Hd.out)
      clear Ha Hd;go_wp2;go_ret;exact⟨by rw [H.out];rfl,rfl⟩
  ·have H:=aA (Gv (s:=s) (by omega));go_enter Tryz.func122,Tryz.ntmps122;go_wp2;go_ret;exact⟨by rw [H.out];rfl,rfl⟩
def qA (o:Int):Int:=if o=10∨o=11 then 3 else if 6≤o∧o≤9 then 4 else if o=1∨o=2 then 5 else if 3≤o∧o≤5 then 6 else 9
theorem AQ (o:Int) (w:World) :
  Calls Tryz.prog 178 #[.int .i64 o] w fun e w'=>e=.returned (.int .i64 (qA o))∧w=w':=by
 by_cases h:1≤o∧o≤11
 ·obtain rfl | rfl | rfl | rfl | rfl | rfl | rfl | rfl | rfl | rfl | rfl:o=1∨o=2∨o=3∨o=4∨o=5∨o=6∨o=7∨o=8∨o=9∨o=10∨o=11:=by omega
  all_goals
   clear h;go_enter Tryz.func178,Tryz.ntmps178;go_wp2_with fail;go_ret;exact⟨rfl,rfl⟩
 ·have H:=aA (show qA o=9 by unfold qA;rw [if_neg (by omega),if_neg (by omega),if_neg (by omega),if_neg (by omega)]);have e1:(o==1)=false:=beq_eq_false_iff_ne.2 (by omega);have e2:(o==2)=false:=beq_eq_false_iff_ne.2 (by omega);have e3:(o==3)=false:=beq_eq_false_iff_ne.2 (by omega);have e4:(o==4)=false:=beq_eq_false_iff_ne.2 (by omega);have e5:(o==5)=false:=beq_eq_false_iff_ne.2 (by omega);have e6:(o==6)=false:=beq_eq_false_iff_ne.2 (by omega);have e7:(o==7)=false:=beq_eq_false_iff_ne.2 (by omega);have e8:(o==8)=false:=beq_eq_false_iff_ne.2 (by omega);have e9:(o==9)=false:=beq_eq_false_iff_ne.2 (by omega);have e10:(o==10)=false:=beq_eq_false_iff_ne.2 (by omega);have e11:(o==11)=false:=beq_eq_false_iff_ne.2 (by omega);clear h;go_enter Tryz.func178,Tryz.ntmps178;go_wp2_with fail;go_ret;exact⟨by rw [H.out];rfl,rfl⟩
theorem AR (k o n:Int) (s:ByteArray) (a1:Option Addr) (c1 q1:Nat) (a2:Option Addr) (c2 q2:Nat) (p:Int) (w:World) :
  Calls Tryz.prog 164 #[.agg #[.int .i64 k,.int .i64 o,.int .i64 n,.string s,.slice a1 c1 q1,.slice a2 c2 q2,.int .i64 p]] w fun e w'=>
   e=.returned (.int .i64 (rankT k o))∧Below w.heap.size w w':=by
 have AL:=aA (bC w (.cells #[.int .i64 k,.int .i64 o,.int .i64 n,.string s,.slice a1 c1 q1,.slice a2 c2 q2,.int .i64 p] 26));by_cases h:9≤k∧k≤16
 ·obtain rfl | rfl | rfl | rfl | rfl | rfl | rfl | rfl:k=10∨k=9∨k=11∨k=12∨k=13∨k=14∨k=15∨k=16:=by omega
  ·have H:=aA (show rankT 10 o=qA o by unfold rankT qA;rfl);go_enter Tryz.func164,Tryz.ntmps164;go_wp2_with fail;refine (AQ o _).mono ?_;rintro e w1 ⟨rfl,rfl⟩;go_wp2_with fail;go_ret;exact⟨by rw [H.out];rfl,AL.out⟩
  all_goals
   clear h;go_enter Tryz.func164,Tryz.ntmps164;go_wp2_with fail;go_ret;exact⟨rfl,AL.out⟩
 ·have e9:(k==9)=false:=beq_eq_false_iff_ne.2 (by omega);have e10:(k==10)=false:=beq_eq_false_iff_ne.2 (by omega);have e11:(k==11)=false:=beq_eq_false_iff_ne.2 (by omega);have e12:(k==12)=false:=beq_eq_false_iff_ne.2 (by omega);have e13:(k==13)=false:=beq_eq_false_iff_ne.2 (by omega);have e14:(k==14)=false:=beq_eq_false_iff_ne.2 (by omega);have e15:(k==15)=false:=beq_eq_false_iff_ne.2 (by omega);have e16:(k==16)=false:=beq_eq_false_iff_ne.2 (by omega);have H:=aA (show rankT k o=if 1≤k∧k≤20 then 9 else 0 by unfold rankT;rw [if_neg (by omega),if_neg (by omega),if_neg (by omega),if_neg (by omega),if_neg (by omega)]);by_cases h1:1≤k
  ·by_cases h2:k≤20
   ·rw [if_pos ⟨h1,h2⟩] at H;clear h;go_enter Tryz.func164,Tryz.ntmps164;go_wp2_with fail;go_ret;exact⟨by rw [H.out];rfl,AL.out⟩
   ·rw [if_neg (by omega)] at H;have d2:decide (k≤20)=false:=decide_eq_false h2;clear h;go_enter Tryz.func164,Tryz.ntmps164;go_wp2_with fail;go_ret;exact⟨by rw [H.out];rfl,AL.out⟩
  ·rw [if_neg (by omega)] at H;have d1:decide (1≤k)=false:=decide_eq_false h1;clear h;go_enter Tryz.func164,Tryz.ntmps164;go_wp2_with fail;go_ret;exact⟨by rw [H.out];rfl,AL.out⟩
theorem Hx (k o n:Int) (s:ByteArray) (a1:Option Addr) (c1 q1:Nat) (a2:Option Addr) (c2 q2:Nat) (p:Int) (hn1:-9223372036854775808≤n) (hn2:n≤9223372036854775807) (hs:s.size≤1000000) (w:World) :
  Calls Tryz.prog 148 #[.agg #[.int .i64 k,.int .i64 o,.int .i64 n,.string s,.slice a1 c1 q1,.slice a2 c2 q2,.int .i64 p]] w fun e w'=>
   e=.returned (.string ⟨(iJ k n s).toArray⟩)∧Below w.heap.size w w':=by
 have AL:=aA (bC w (.cells #[.int .i64 k,.int .i64 o,.int .i64 n,.string s,.slice a1 c1 q1,.slice a2 c2 q2,.int .i64 p] 26));cases h1:(k==1) with
 | true=>
  obtain rfl:=beq_iff_eq.1 h1;clear h1;go_enter Tryz.func148,Tryz.ntmps148;go_wp2_with fail;go_ret;exact⟨rfl,AL.out⟩
 | false=>
 cases h6:(k==6) with
 | true=>
  obtain rfl:=beq_iff_eq.1 h6;clear h6 h1;go_enter Tryz.func148,Tryz.ntmps148;go_wp2_with fail;go_ret;exact⟨rfl,AL.out⟩
 | false=>
 cases h2:(k==2) with
 | true=>
  obtain rfl:=beq_iff_eq.1 h2;clear h2 h1 h6;by_cases h0:n=0
  ·subst h0;go_enter Tryz.func148,Tryz.ntmps148;go_wp2_with fail;go_ret;exact⟨rfl,AL.out⟩
  ·have e0:(n==0)=false:=beq_eq_false_iff_ne.2 h0;have H:=aA (show iJ 2 n s=[116,114,117,101] by unfold iJ;rw [if_neg (by decide),if_neg (by decide),if_pos rfl,if_neg h0]);clear h0;go_enter Tryz.func148,Tryz.ntmps148;go_wp2_with fail;go_ret;exact⟨by rw [H.out];rfl,AL.out⟩
 | false=>
 cases h3:(k==3) with
 | true=>
  obtain rfl:=beq_iff_eq.1 h3;clear h2 h1 h6 h3;have H:=aA (show iJ 3 n s=digs n by unfold iJ;rw [if_neg (by decide),if_neg (by decide),if_neg (by decide),if_pos rfl]);go_enter Tryz.func148,Tryz.ntmps148;go_wp2_with fail;refine (vJ n hn1 hn2 _).mono ?_;rintro e w1 ⟨rfl,b1⟩;go_wp2_with fail;go_ret;exact⟨by rw [H.out];rfl,aH AL.out (by simp) b1⟩
 | false=>
 cases h4:(k==4) with
 | true=>
  obtain rfl:=beq_iff_eq.1 h4;clear h2 h1 h6 h3 h4;have H:=aA (show iJ 4 n s=kV s.data.toList by unfold iJ;rw [if_neg (by decide),if_neg (by decide),if_neg (by decide),if_neg (by decide),if_pos rfl]);go_enter Tryz.func148,Tryz.ntmps148;go_wp2_with fail;refine (Eq s hs _).mono ?_;rintro e w1 ⟨rfl,b1⟩;go_wp2_with fail;go_ret;exact⟨by rw [H.out];rfl,aH AL.out (by simp) b1⟩
 | false=>
  have H:=aA (show (⟨(iJ k n s).toArray⟩:ByteArray)=s by
   unfold iJ;rw [if_neg (beq_eq_false_iff_ne.1 h1),if_neg (beq_eq_false_iff_ne.1 h6),if_neg (beq_eq_false_iff_ne.1 h2),if_neg (beq_eq_false_iff_ne.1 h3),if_neg (beq_eq_false_iff_ne.1 h4)])
  go_enter Tryz.func148,Tryz.ntmps148;go_wp2_with fail;go_ret;exact⟨by rw [H.out];rfl,AL.out⟩
end Go.Proofs.YtdnnmjhfidimcaaGreatDoor
