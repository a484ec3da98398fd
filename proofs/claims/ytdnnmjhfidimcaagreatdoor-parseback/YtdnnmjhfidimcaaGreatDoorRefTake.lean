/- What the document's Take answers, for any text. -/
import Derived.Test.YtdnnmjhfidimcaaGreatDoorJoint15
import Derived.Test.YtdnnmjhfidimcaaGreatDoorJoint16
namespace Go.Proofs.YtdnnmjhfidimcaaGreatDoor
set_option maxRecDepth 100000
set_option maxHeartbeats 4000000
open Go.RowKit
theorem iS (n:Nat) (w:World) :
  Calls Tryz.prog 82 #[.int .u8 (n:Int)] w fun e w'=>e=.returned (.int .u8 (bE n:Int))∧w=w':=by
 rcases (show n<48∨(48≤n∧n≤57)∨(57<n∧n<65)∨(65≤n∧n≤70)∨(70<n∧n<97)∨(97≤n∧n≤102)∨102<n from by omega) with h | ⟨h1,h2⟩ | ⟨h1,h2⟩ | ⟨h1,h2⟩ | ⟨h1,h2⟩ | ⟨h1,h2⟩ | h
 ·have H:=aA (show bE n=16 by unfold bE;rw [if_neg (by omega),if_neg (by omega),if_neg (by omega)]);go_enter Tryz.func82,Tryz.ntmps82;go_wp2;go_ret;exact⟨by rw [H.out];rfl,rfl⟩
 ·have H:=aA (show bE n=n - 48 by unfold bE;rw [if_pos (by omega)]);go_enter Tryz.func82,Tryz.ntmps82;go_wp2;go_ret;exact⟨by rw [H.out];simp;omega,rfl⟩
 ·have H:=aA (show bE n=16 by unfold bE;rw [if_neg (by omega),if_neg (by omega),if_neg (by omega)]);go_enter Tryz.func82,Tryz.ntmps82;go_wp2;go_ret;exact⟨by rw [H.out];rfl,rfl⟩
 ·have H:=aA (show bE n=n - 55 by unfold bE;rw [if_neg (by omega),if_neg (by omega),if_pos (by omega)]);go_enter Tryz.func82,Tryz.ntmps82;go_wp2;go_ret;exact⟨by rw [H.out];simp;omega,rfl⟩
 ·have H:=aA (show bE n=16 by unfold bE;rw [if_neg (by omega),if_neg (by omega),if_neg (by omega)]);go_enter Tryz.func82,Tryz.ntmps82;go_wp2;go_ret;exact⟨by rw [H.out];rfl,rfl⟩
 ·have H:=aA (show bE n=n - 87 by unfold bE;rw [if_neg (by omega),if_pos (by omega)]);go_enter Tryz.func82,Tryz.ntmps82;go_wp2;go_ret;exact⟨by rw [H.out];simp;omega,rfl⟩
 ·have H:=aA (show bE n=16 by unfold bE;rw [if_neg (by omega),if_neg (by omega),if_neg (by omega)]);go_enter Tryz.func82,Tryz.ntmps82;go_wp2;go_ret;exact⟨by rw [H.out];rfl,rfl⟩
theorem MV {B:Nat} {v:Value} {l:List UInt8} {w:World} (h:Cq B v l w):(convert 49 9 v).run Tryz.prog w=.ok (.string ⟨l.toArray⟩) w:=by
 rcases h.2 with ⟨rfl,hl⟩ | ⟨g,cap,cur,rfl,_⟩
 ·have:l=[]:=List.length_eq_zero_iff.1 hl;subst this;rw [run_convert_bytes_string w 49 9 5 none 0 0 (by kernel_rfl) (by kernel_rfl) (by kernel_rfl)];rfl
 ·exact FF h rfl
structure Sq (s:ByteArray) (w:World) (k f:Nat) (acc:List UInt8) (v:Value) (wr:World):Prop where
 hk:k≤s.size
 len:acc.length≤k
 go:fL f (s.data.toList.drop k) k acc=takeOut s.data.toList
 fuel:(s.data.toList.drop k).length<f
 own:Cq w.heap.size v acc wr
 bel:Below w.heap.size w wr
theorem xX {s:ByteArray} {w wr w2:World} {k f n:Nat} {acc:List UInt8} {v v2:Value} (h:Sq s w k f acc v wr) (c:UInt8) (ho:fI (s.data.toList.drop k)=(some c,n)) (hown:Cq w.heap.size v2 (acc++[c]) w2) (hb:Below w.heap.size wr w2) :
  ∃ f',Sq s w (k+n) f' (acc++[c]) v2 w2∧1≤n:=by
 obtain⟨f',hg',hf',hn1,hn2⟩:=JU h.go h.fuel ho;rw [List.length_drop,cB] at hn2;have h1:=h.hk;have h2:=h.len;exact⟨f',⟨by omega,by simp;omega,by rw [← List.drop_drop];exact hg',by rw [← List.drop_drop];exact hf',hown,h.bel.trans hb⟩,hn1⟩
theorem pW {s:ByteArray} {w wr:World} {k f n:Nat} {acc:List UInt8} {v:Value} (h:Sq s w k f acc v wr) (hkl:k<s.size) (h34:s[k].toNat≠34) (ho:fI (s.data.toList.drop k)=(none,n)) :
  takeOut s.data.toList=([],k+n,11):=
 DT h.go h.fuel (by rw [aZ s k hkl];exact h34) ho
theorem MW {s:ByteArray} {k:Nat} (hkl:k<s.size) (hp:gD s[k].toNat=true):fI (s.data.toList.drop k)=(some s[k],1):=by
 rw [aZ s k hkl];simp [fI,hp]
theorem QP {s:ByteArray} {k:Nat} (hkl:k<s.size) (hp:gD s[k].toNat=false) (h92:s[k].toNat≠92):fI (s.data.toList.drop k)=(none,0):=by
 rw [aZ s k hkl];simp [fI,hp,h92]
theorem RS {s:ByteArray} {k:Nat} (hkl:k<s.size) (h92:s[k].toNat=92) (h1:s.size≤k+1):fI (s.data.toList.drop k)=(none,1):=by
 rw [aZ s k hkl,pQ h92,fH s _ h1];rfl
theorem RT {s:ByteArray} {k:Nat} (hkl:k<s.size) (h92:s[k].toNat=92) (h1:k+1<s.size) (hd:s[k+1].toNat=34∨s[k+1].toNat=92):fI (s.data.toList.drop k)=(some s[k+1],2):=by
 rw [aZ s k hkl,pQ h92,aZ s _ h1];simp [nO,hd]
theorem RU {s:ByteArray} {k:Nat} (hkl:k<s.size) (h92:s[k].toNat=92) (h1:k+1<s.size) (hd:¬ (s[k+1].toNat=34∨s[k+1].toNat=92)) (hx:s[k+1].toNat≠120):fI (s.data.toList.drop k)=(none,1):=by
 rw [aZ s k hkl,pQ h92,aZ s _ h1];simp only [nO];rw [if_neg hd,if_pos hx]
theorem RV {s:ByteArray} {k:Nat} (hkl:k<s.size) (h92:s[k].toNat=92) (h1:k+1<s.size) (hx:s[k+1].toNat=120):fI (s.data.toList.drop k)=((lG (s.data.toList.drop (k+2))).1,(lG (s.data.toList.drop (k+2))).2+2):=by
 rw [aZ s k hkl,pQ h92,aZ s _ h1];simp only [nO,hx];rw [if_neg (by decide),if_neg (by decide)]
theorem Sr {s:ByteArray} {k:Nat} (h:s.size≤k):lG (s.data.toList.drop k)=(none,0):=by rw [fH s _ h];rfl
theorem Ss {s:ByteArray} {k:Nat} (h:k<s.size) (hw:bE s[k].toNat=16):lG (s.data.toList.drop k)=(none,0):=by
 rw [aZ s k h];simp [lG,hw]
theorem St {s:ByteArray} {k:Nat} (h:k<s.size) (hw:bE s[k].toNat≠16) (h1:s.size≤k+1):lG (s.data.toList.drop k)=(none,1):=by
 rw [aZ s k h,fH s _ h1];simp [lG,hw]
theorem Su {s:ByteArray} {k:Nat} (h:k<s.size) (hw:bE s[k].toNat≠16) (h1:k+1<s.size) (hw1:bE s[k+1].toNat=16):lG (s.data.toList.drop k)=(none,1):=by
 rw [aZ s k h,aZ s _ h1];simp [lG,hw,hw1]
theorem Sv {s:ByteArray} {k:Nat} (h:k<s.size) (hw:bE s[k].toNat≠16) (h1:k+1<s.size) (hw1:bE s[k+1].toNat≠16):lG (s.data.toList.drop k)=(some (UInt8.ofNat (16*bE s[k].toNat+bE s[k+1].toNat)),2):=by
 rw [aZ s k h,aZ s _ h1];simp [lG,hw,hw1]
theorem qT (s:ByteArray) (hs:s.size≤1000000) (w:World) :
  Calls Tryz.prog 55 #[.string s] w fun e w'=>
   e=.returned (.tuple #[.string ⟨(takeOut s.data.toList).1.toArray⟩,.int .i64 ((takeOut s.data.toList).2.1:Int),.int .i64 (takeOut s.data.toList).2.2])∧Below w.heap.size w w':=by
 by_cases hpos:0<s.size
 ·have e0:((s.size:Int)==0)=false:=beq_eq_false_iff_ne.2 (by omega);by_cases h34:s[0].toNat=34
  ·have e34:((s[0].toNat:Int) != 34)=false:=by simp [h34]
   have HR:Hid (Sq s w 1 ((s.data.toList.drop 1).length+1) [] (.slice none 0 0) w):=by
    refine aA ⟨hpos,by simp,?_,by omega,World.ownsRow_nil _ _ _ _,Below.refl _ _⟩;have hd:=aZ s 0 hpos;rw [List.drop_zero] at hd;conv=>rhs;rw [hd]
    simp only [takeOut];rw [if_pos h34]
   clear h34;go_enter Tryz.func55,Tryz.ntmps55;go_wp2_with fail;go_loopw [5,6,7] (fun v i _ wr=>∃ (k f:Nat) (acc:List UInt8),i=.int .i64 (k:Int)∧Sq s w k f acc v wr) (fun _ i _ _=>s.size - (intOf i).toNat)
   case atStart=>exact⟨1,_,[],rfl,HR.out⟩
   case round=>
    clear HR;obtain⟨k,f,acc,rfl,hR⟩:=hrel;have hk:=hR.hk;have hlen:=hR.len;have HR:=aA hR;clear hR;by_cases hkl:k<s.size
    ·by_cases hc34:s[k].toNat=34
     ·have HO:=aA (FB HR.out.go HR.out.fuel (by rw [aZ s k hkl];exact hc34));have e1:((s[k].toNat:Int)==34)=true:=beq_iff_eq.2 (by omega);have hcv:=MV HR.out.own;clear hc34;go_wp2;go_ret3
      exact⟨by rw [HO.out];rfl,HR.out.bel⟩
     ·have e1:((s[k].toNat:Int)==34)=false:=beq_eq_false_iff_ne.2 (by omega);have N34:=aA hc34;clear hc34;go_wp2_with fail;refine (Cc _ _).mono ?_;rintro e w1 ⟨rfl,rfl⟩;cases hp:gD s[k].toNat
      ·by_cases h92:s[k].toNat=92
       ·have e2:((s[k].toNat:Int) != 92)=false:=by simp [h92]
        have H92:=aA h92;clear h92;by_cases hk1:k+1<s.size
        ·by_cases hd:s[k+1].toNat=34∨s[k+1].toNat=92
         ·have HO:=aA (RT hkl H92.out hk1 hd);have Hd:=aA hd;clear hd;rcases Hd.out with d34 | d92
          ·have e3:((s[k+1].toNat:Int)==34)=true:=beq_iff_eq.2 (by omega);clear d34;go_wp2_with (at_builtin;refine ID rfl _ _ rfl w.heap.size _ [s[k+1]] _ 1 rfl rfl _ (by rfl) HR.out.own (by rfl) (by omega) HR.out.bel.size (by decide) ?_)
           rintro g2 cap2 w3 h3 b3;obtain⟨f',hn,_⟩:=xX HR.out _ HO.out h3 b3;have HN:=aA hn;clear h3 b3 hn;go_wp2;go_roundw
           case rel=>exact⟨k+2,f',_,by go_num,HN.out⟩
           case measure=>simp [intOf];omega
          ·have e3:((s[k+1].toNat:Int)==34)=false:=beq_eq_false_iff_ne.2 (by omega);have e4:((s[k+1].toNat:Int)==92)=true:=beq_iff_eq.2 (by omega);clear d92;go_wp2_with (at_builtin;refine ID rfl _ _ rfl w.heap.size _ [s[k+1]] _ 1 rfl rfl _ (by rfl) HR.out.own (by rfl) (by omega) HR.out.bel.size (by decide) ?_)
           rintro g2 cap2 w3 h3 b3;obtain⟨f',hn,_⟩:=xX HR.out _ HO.out h3 b3;have HN:=aA hn;clear h3 b3 hn;go_wp2;go_roundw
           case rel=>exact⟨k+2,f',_,by go_num,HN.out⟩
           case measure=>simp [intOf];omega
         ·have e3:((s[k+1].toNat:Int)==34)=false:=beq_eq_false_iff_ne.2 (by omega);have e4:((s[k+1].toNat:Int)==92)=false:=beq_eq_false_iff_ne.2 (by omega);by_cases hx:s[k+1].toNat=120
          ·have e5:((s[k+1].toNat:Int) != 120)=false:=by simp [hx]
           have HM:=aA (RV hkl H92.out hk1 hx);clear hd hx;by_cases hk2:k+2<s.size
           ·cases hw2:decide (bE s[k+2].toNat=16)
            ·have hw2':bE s[k+2].toNat≠16:=of_decide_eq_false hw2;have e6:((bE s[k+2].toNat:Int)==16)=false:=beq_eq_false_iff_ne.2 (by omega);by_cases hk3:k+3<s.size
             ·cases hw3:decide (bE s[k+3].toNat=16)
              ·have hw3':bE s[k+3].toNat≠16:=of_decide_eq_false hw3;have e7:((bE s[k+3].toNat:Int)==16)=false:=beq_eq_false_iff_ne.2 (by omega);have HO:Hid (fI (s.data.toList.drop k)=(some (UInt8.ofNat (16*bE s[k+2].toNat+bE s[k+3].toNat)),4)):=aA (by rw [HM.out,Sv hk2 hw2' hk3 hw3']);have l2:=oZ s[k+2].toNat;have l3:=oZ s[k+3].toNat;clear hw2 hw3;go_wp2_with fail;refine (iS _ _).mono ?_;rintro e w2 ⟨rfl,rfl⟩;go_wp2_with fail;refine (iS _ _).mono ?_;rintro e w3 ⟨rfl,rfl⟩;have m1:IntKind.u8.wrap ((bE s[k+2].toNat:Int)*16)=(bE s[k+2].toNat:Int)*16:=by simp [IntKind.wrap,IntKind.signed,IntKind.bits];omega
               have m2:IntKind.u8.wrap ((bE s[k+2].toNat:Int)*16+(bE s[k+3].toNat:Int))=(bE s[k+2].toNat:Int)*16+(bE s[k+3].toNat:Int):=by simp [IntKind.wrap,IntKind.signed,IntKind.bits];omega
               have m3:IntKind.i64.wrap ((k:Int)+1+1+1)=(k:Int)+1+1+1:=by simp [IntKind.wrap,IntKind.signed,IntKind.bits];omega
               have m4:(0:Int)≤(k:Int)+1+1+1:=by omega
               have Hcs:Hid (#[Value.int .u8 (IntKind.u8.wrap (IntKind.u8.wrap ((bE s[k+2].toNat:Int)*16)+(bE s[k+3].toNat:Int)))]=(Lib.byteCells [UInt8.ofNat (16*bE s[k+2].toNat+bE s[k+3].toNat)]).toArray):=aA (by simp only [Lib.byteCells,List.map_cons,List.map_nil];rw [m1,m2,zV (by omega),show (((16*bE s[k+2].toNat+bE s[k+3].toNat:Nat)):Int)=(bE s[k+2].toNat:Int)*16+(bE s[k+3].toNat:Int) from by omega]);go_wp2_with fail;go_region_law (first
                | (go_simp;go_at_call 82;refine (iS _ _).mono ?_;rintro e w2 ⟨rfl,rfl⟩)
                | (refine Ol rfl _ _ rfl w.heap.size _ [UInt8.ofNat (16*bE s[k+2].toNat+bE s[k+3].toNat)] _ 1 rfl Hcs.out _ (by rfl) HR.out.own (by rfl) (by omega) HR.out.bel.size (by decide) ?_;intro g2 cap2 w3 h3 b3))
               all_goals
                (obtain⟨f',hn,_⟩:=xX HR.out _ HO.out h3 b3
                 have HN:=aA hn;clear h3 b3 hn;go_wp2;go_roundw
                 case rel=>exact⟨k+4,f',_,by go_num,HN.out⟩
                 case measure=>simp [intOf];omega)
              ·have HF:=aA (pW HR.out hkl N34.out (show fI (s.data.toList.drop k)=(none,3) by rw [HM.out,Su hk2 hw2' hk3 (of_decide_eq_true hw3)]));have e7:((bE s[k+3].toNat:Int)==16)=true:=beq_iff_eq.2 (by have:=of_decide_eq_true hw3;omega);clear hw2 hw3 hw2';go_wp2_with fail;refine (iS _ _).mono ?_;rintro e w2 ⟨rfl,rfl⟩;go_wp2_with fail;refine (iS _ _).mono ?_;rintro e w3 ⟨rfl,rfl⟩;go_wp2;go_ret3
               exact⟨by rw [HF.out];rfl,HR.out.bel⟩
             ·have HF:=aA (pW HR.out hkl N34.out (show fI (s.data.toList.drop k)=(none,3) by rw [HM.out,St hk2 hw2' (by omega)]));clear hw2 hw2';go_wp2_with fail;refine (iS _ _).mono ?_;rintro e w2 ⟨rfl,rfl⟩;go_wp2;go_ret3
              exact⟨by rw [HF.out];rfl,HR.out.bel⟩
            ·have HF:=aA (pW HR.out hkl N34.out (show fI (s.data.toList.drop k)=(none,2) by rw [HM.out,Ss hk2 (of_decide_eq_true hw2)]));have e6:((bE s[k+2].toNat:Int)==16)=true:=beq_iff_eq.2 (by have:=of_decide_eq_true hw2;omega);clear hw2;go_wp2_with fail;refine (iS _ _).mono ?_;rintro e w2 ⟨rfl,rfl⟩;go_wp2;go_ret3
             exact⟨by rw [HF.out];rfl,HR.out.bel⟩
           ·have HF:=aA (pW HR.out hkl N34.out (show fI (s.data.toList.drop k)=(none,2) by rw [HM.out,Sr (by omega)]));go_wp2;go_ret3
            exact⟨by rw [HF.out];rfl,HR.out.bel⟩
          ·have e5:((s[k+1].toNat:Int) != 120)=true:=bne_iff_ne.2 (by omega);have HF:=aA (pW HR.out hkl N34.out (RU hkl H92.out hk1 hd hx));clear hd hx;go_wp2;go_ret3
           exact⟨by rw [HF.out];rfl,HR.out.bel⟩
        ·have HF:=aA (pW HR.out hkl N34.out (RS hkl H92.out (by omega)));go_wp2;go_ret3
         exact⟨by rw [HF.out];rfl,HR.out.bel⟩
       ·have e2:((s[k].toNat:Int) != 92)=true:=bne_iff_ne.2 (by omega);have HF:=aA (pW HR.out hkl N34.out (QP hkl hp h92));clear h92;go_wp2;go_ret3
        exact⟨by rw [HF.out];rfl,HR.out.bel⟩
      ·have HO:=aA (MW hkl hp);go_wp2_with (at_builtin;refine ID rfl _ _ rfl w.heap.size _ [s[k]] _ 1 rfl rfl _ (by rfl) HR.out.own (by rfl) (by omega) HR.out.bel.size (by decide) ?_)
       rintro g2 cap2 w3 h3 b3;obtain⟨f',hn,_⟩:=xX HR.out _ HO.out h3 b3;have HN:=aA hn;clear h3 b3 hn;go_wp2;go_roundw
       case rel=>exact⟨k+1,f',_,by go_num,HN.out⟩
       case measure=>simp [intOf];omega
    ·have HF:Hid (takeOut s.data.toList=([],s.size,11)):=aA (by
      have h1:=DT HR.out.go HR.out.fuel (by rw [fH s k (by omega)];decide) (show fI (s.data.toList.drop k)=(none,0) by rw [fH s k (by omega)];rfl);rw [h1,show k+0=s.size from by omega])
     go_wp2;go_ret3
     exact⟨by rw [HF.out];rfl,HR.out.bel⟩
  ·have e34:((s[0].toNat:Int) != 34)=true:=bne_iff_ne.2 (by omega);have HF:Hid (takeOut s.data.toList=([],0,11)):=aA (by
    have hd:=aZ s 0 hpos;rw [List.drop_zero] at hd;rw [hd];simp only [takeOut];rw [if_neg h34])
   clear h34;go_enter Tryz.func55,Tryz.ntmps55;go_wp2;go_ret3
   exact⟨by rw [HF.out];rfl,Below.refl _ _⟩
 ·have e0:((s.size:Int)==0)=true:=beq_iff_eq.2 (by omega);have HF:Hid (takeOut s.data.toList=([],0,11)):=aA (by
   have:s.data.toList=[]:=List.length_eq_zero_iff.1 (by rw [cB];omega);rw [this];rfl)
  clear hpos;go_enter Tryz.func55,Tryz.ntmps55;go_wp2;go_ret3
  exact⟨by rw [HF.out];rfl,Below.refl _ _⟩
end Go.Proofs.YtdnnmjhfidimcaaGreatDoor
