/- The longest sign that comes. What num.Read and the document's Read answer, for any text (NumRead, NumReads and RefNum's Read again, for cuts without num's other functions, ending in Below). -/
import Derived.Test.YtdnnmjhfidimcaaGreatDoorJoint28
import Derived.Deep.MidRow
import Derived.Test.YtdnnmjhfidimcaaGreatDoorProg
import Derived.Test.YtdnnmjhfidimcaaGreatDoorJoint1
import Derived.Lib.Strings
namespace Go.Proofs.YtdnnmjhfidimcaaGreatDoor
set_option maxRecDepth 100000
set_option maxHeartbeats 800000
open Go.RowKit
theorem xA:∀ (L:List (List UInt8)) (l:List UInt8) (j:Nat) (h:j<L.length),lP L[j] l=false→fB (L.drop j) l=fB (L.drop (j+1)) l:=by
 intro L l j h hp;rw [List.drop_eq_getElem_cons h];unfold lP at hp;simp [fB,hp]
theorem xB:∀ (L:List (List UInt8)) (l:List UInt8) (j:Nat) (h:j<L.length),lP L[j] l=true→fB (L.drop j) l=L[j]:=by
 intro L l j h hp;rw [List.drop_eq_getElem_cons h];unfold lP at hp;simp [fB,hp]
theorem Me {w:World} (h:iF 0 sgnL w):w.rangeAt 0 0 (sgnL.map fun l=>Value.string ⟨l.toArray⟩):=by
 intro j v hv;rw [List.getElem?_map,Option.map_eq_some_iff] at hv;obtain⟨l,hl,rfl⟩:=hv;obtain⟨hj,rfl⟩:=List.getElem?_eq_some_iff.1 hl;simpa using h j hj
theorem Qd (A:Array Value) (x:ByteArray) (j:Nat) (hj:j<25) (h:A[j]? = some (.string x)) (w:World) :
  (Instr.index 138 (.agg A) (.int .i64 (j:Int))).run Tryz.prog w=.ok (.string x) w:=by
 simp [go_sem,Instr.index,part,h,asIntOf];omega
theorem vB (s:ByteArray) (w:World) (SG:Hid (iF 0 sgnL w)) :
  Calls Tryz.prog 130 #[.string s] w fun e w'=>e=.returned (.string ⟨(signL s.data.toList).toArray⟩)∧w=w':=by
 go_enter Tryz.func130,Tryz.ntmps130;go_wp2_with (refine wpList_load_mid rfl 138 _ rfl 0 0 rfl _ _ (Me SG.out) Tryz.underlying138 rfl (by kernel_rfl) ?_)
 generalize hA:(List.map (fun l=>Value.string ⟨l.toArray⟩) sgnL).toArray=A;have hAt:Hid (∀ (j:Nat) (h:j<sgnL.length),A[j]? = some (.string ⟨(sgnL[j]).toArray⟩)):=aA fun j h=>by rw [← hA];simp [h]
 have h25:sgnL.length=25:=rfl;clear hA;go_wp2;go_loop [6] (fun i=>∃ j:Nat,j≤25∧i=.int .i64 j∧signL s.data.toList=fB (sgnL.drop j) s.data.toList) (fun i=>25 - (intOf i).toNat)
 case atStart=>exact⟨0,by omega,rfl,rfl⟩
 case round=>
  obtain⟨j,hj,rfl,hf⟩:=hrel;by_cases hjl:j<25
  ·have hjL:j<sgnL.length:=by omega
   have c:=Qd A _ j hjl (hAt.out j hjL) w;cases hp:lP sgnL[j] s.data.toList with
   | true=>
    have H:=aA (hf.trans (xB sgnL _ j hjL hp));have Hp:=aA hp;clear hp hf;generalize sgnL[j]=x at *
    go_wp2_with fail;refine (lV _ _ _).mono ?_;rintro e w1 ⟨rfl,rfl⟩;rw [Hp.out];go_wp2;go_ret;exact⟨by rw [H.out];rfl,rfl⟩
   | false=>
    have H:=aA (hf.trans (xA sgnL _ j hjL hp));have Hp:=aA hp;clear hp hf;generalize sgnL[j]=x at *
    go_wp2_with fail;refine (lV _ _ _).mono ?_;rintro e w1 ⟨rfl,rfl⟩;rw [Hp.out];go_wp2;go_round
    case rel=>exact⟨j+1,by omega,by go_num,H.out⟩
    case measure=>simp [intOf];omega
  ·have H:=aA (hf.trans (show fB (sgnL.drop j) s.data.toList=[] by rw [List.drop_of_length_le (by omega)];rfl));clear hf;go_wp2;go_ret;exact⟨by rw [H.out];rfl,rfl⟩
theorem Fw (s:ByteArray) (k n:Nat) (x:List UInt8) (hn:x.length=n) (_h:k+n≤s.size):((s.extract k (k+n)).toList==x)=lP x (s.data.toList.drop k):=by
 rw [Lib.toList_data,mU,Bool.eq_iff_iff,beq_iff_eq,lP,List.isPrefixOf_iff_prefix,List.prefix_iff_eq_take,hn,Nat.add_sub_cancel_left];exact eq_comm
theorem Mf (s:ByteArray) (k:Nat) (x:List UInt8) (hk:k≤s.size) (h:s.size<k+x.length):lP x (s.data.toList.drop k)=false:=by
 cases h1:lP x (s.data.toList.drop k) with
 | false=>rfl
 | true=>
  have:=(List.isPrefixOf_iff_prefix.1 h1).length_le;rw [List.length_drop,cB] at this;omega
theorem vC (s:ByteArray) (hs:s.size≤1000000) (k:Nat) (hk:k≤s.size) (w:World) :
  Calls Tryz.prog 56 #[.string s,.int .i64 k] w fun e w'=>e=.returned (.string ⟨(signL (s.data.toList.drop k)).toArray⟩)∧Below w.heap.size w w':=by
 go_enter Tryz.func56,Tryz.ntmps56;go_wp2_with fail;refine (Fv _).mono ?_;rintro e w1 ⟨rfl,hw⟩;have T:=aA (hw▸CB w sgnL 9);have B:=aA (hw▸(Below.refl w.heap.size w).alloc (Nat.le_refl _) (.cells (pB sgnL) 9));clear hw;have h25:sgnL.length=25:=rfl;go_wp2;go_loopw [6,7] (fun i n wr=>∃ j:Nat,j≤25∧i=.int .i64 j∧signL (s.data.toList.drop k)=fB (sgnL.drop j) (s.data.toList.drop k)∧iF w.heap.size sgnL wr∧Below w.heap.size w wr) (fun i _ _=>25 - (intOf i).toNat)
 case atStart=>exact⟨0,by omega,rfl,rfl,T.out,B.out⟩
 case round=>
  obtain⟨j,hj,rfl,hf,hT,hB⟩:=hrel;clear T B;by_cases hjl:j<25
  ·have hjL:j<sgnL.length:=by omega
   have c:=hT j hjL;have T:=aA hT;have B:=aA hB;have hx2:sgnL[j].length≤2:=by
    have:∀ x∈sgnL,x.length≤2:=by decide
    exact this _ (List.getElem_mem hjL)
   cases hp:lP sgnL[j] (s.data.toList.drop k) with
   | true=>
    have H:=aA (hf.trans (xB sgnL _ j hjL hp));by_cases hr:k+sgnL[j].length≤s.size
    ·have Hp:=(Fw s k _ _ rfl hr).trans hp;have hd:decide ((sgnL[j].length:Int)≤(s.size:Int) - (k:Int))=true:=decide_eq_true (by omega);clear hp hf hT hB;generalize sgnL[j]=x at *
     go_wp2;go_quiet (fail);go_wp2;go_ret;exact⟨by rw [H.out];rfl,below_drewN B.out _⟩
    ·rw [Mf s k _ hk (by omega)] at hp;cases hp
   | false=>
    have H:=aA (hf.trans (xA sgnL _ j hjL hp));by_cases hr:k+sgnL[j].length≤s.size
    ·have Hp:=(Fw s k _ _ rfl hr).trans hp;have hd:decide ((sgnL[j].length:Int)≤(s.size:Int) - (k:Int))=true:=decide_eq_true (by omega);clear hp hf hT hB;generalize sgnL[j]=x at *
     go_wp2;go_quiet (fail);go_wp2;go_roundw
     case rel=>exact⟨j+1,by omega,by go_num,H.out,fun i h=>T.out i h,below_drewN B.out _⟩
     case measure=>simp [intOf];omega
    ·have hd:decide ((sgnL[j].length:Int)≤(s.size:Int) - (k:Int))=false:=decide_eq_false (by omega);clear hp hf hT hB;generalize sgnL[j]=x at *
     go_wp2;go_quiet (fail);go_wp2;go_roundw
     case rel=>exact⟨j+1,by omega,by go_num,H.out,fun i h=>T.out i h,below_drewN B.out _⟩
     case measure=>simp [intOf];omega
  ·have H:=aA (hf.trans (show fB (sgnL.drop j) (s.data.toList.drop k)=[] by rw [List.drop_of_length_le (by omega)];rfl));have B:=aA hB;clear hf hT hB;go_wp2;go_ret;exact⟨by rw [H.out];rfl,B.out⟩
/-! the closure of num.reading -/
theorem Iz (d n:Int) (pa pn:Nat) (w:World) (ab:Bool) (hn:w.cell? ⟨pn,0,none⟩=some (.int .i64 n)) (ha:w.cell? ⟨pa,0,none⟩=some (.bool ab))
  (fa:w.frozen? ⟨pa,0,none⟩=false) (d0:0≤d) (d9:d≤9) (h:ab=true∨(4611686018427387903 - d) / 10<n) :
  Calls Tryz.prog 168 #[.int .i64 d,.pointer (some ⟨pa,0,none⟩),.pointer (some ⟨pn,0,none⟩)] w fun e w'=>
   e=.returned (.tuple #[.int .i64 0,.int .i64 10])∧w.setCell ⟨pa,0,none⟩ (.bool true)=w':=by
 cases ab
 ·have h2:(4611686018427387903 - d) / 10<n:=by simpa using h
  clear h;go_enter Tryz.func168,Tryz.ntmps168;go_wp2;go_ret2;exact⟨rfl,rfl⟩
 ·clear h;go_enter Tryz.func168,Tryz.ntmps168;go_wp2;go_ret2;exact⟨rfl,rfl⟩
theorem Mi (d n:Int) (pa pn:Nat) (w:World) (hn:w.cell? ⟨pn,0,none⟩=some (.int .i64 n)) (ha:w.cell? ⟨pa,0,none⟩=some (.bool false))
  (fn:w.frozen? ⟨pn,0,none⟩=false) (d0:0≤d) (d9:d≤9) (n0:0≤n) (h:n≤(4611686018427387903 - d) / 10) :
  Calls Tryz.prog 168 #[.int .i64 d,.pointer (some ⟨pa,0,none⟩),.pointer (some ⟨pn,0,none⟩)] w fun e w'=>
   e=.returned (.tuple #[.int .i64 (10*n+d),.int .i64 0])∧w.setCell ⟨pn,0,none⟩ (.int .i64 (10*n+d))=w':=by
 go_enter Tryz.func168,Tryz.ntmps168;go_wp2;go_ret2;exact⟨rfl,rfl⟩
theorem Co (w:World) :
  Calls Tryz.prog 154 #[] w fun e w'=>
   e=.returned (.func (.func 168) #[] #[.pointer (some ⟨w.heap.size+1,0,none⟩),.pointer (some ⟨w.heap.size,0,none⟩)])∧
    (w.alloc (Obj.cells #[.int .i64 0] 3)).alloc (Obj.cells #[.bool false] 4)=w':=by
 have hmf:∀ (fn:Fn) (first cap:Array Value) (w:World),(Instr.makeFunc fn first cap).run Tryz.prog w=.ok (.func fn first cap) w:=fun _ _ _ _=>rfl
 go_enter Tryz.func154,Tryz.ntmps154;go_wp2;go_ret;exact⟨rfl,rfl⟩
structure sJ (w:World) (n:Int) (ab:Bool) (wr:World):Prop where
 cn:wr.cell? ⟨w.heap.size,0,none⟩=some (.int .i64 n)
 ca:wr.cell? ⟨w.heap.size+1,0,none⟩=some (.bool ab)
 fn:wr.frozen? ⟨w.heap.size,0,none⟩=false
 fa:wr.frozen? ⟨w.heap.size+1,0,none⟩=false
 gr:Below w.heap.size w wr
theorem IA (w:World):sJ w 0 false ((w.alloc (Obj.cells #[.int .i64 0] 3)).alloc (Obj.cells #[.bool false] 4)) where
 cn:=by simp
 ca:=by simp
 fn:=by simp
 fa:=by simp
 gr:=((Below.refl _ _).alloc (Nat.le_refl _) _).alloc (by simp) _
theorem IC {w wr:World} {n:Int} {ab:Bool} (h:sJ w n ab wr):sJ w n true (wr.setCell ⟨w.heap.size+1,0,none⟩ (.bool true)) where
 cn:=by rw [World.cell?_setCell_other (h:=by simp)];exact h.cn
 ca:=World.cell?_setCell_same' _ _ _ (by rw [h.ca];rfl)
 fn:=by simp [h.fn]
 fa:=by simp [h.fa]
 gr:=h.gr.setCell (by simp) _
theorem Mj {w wr:World} {n:Int} {ab:Bool} (h:sJ w n ab wr) (m:Int):sJ w m ab (wr.setCell ⟨w.heap.size,0,none⟩ (.int .i64 m)) where
 cn:=World.cell?_setCell_same' _ _ _ (by rw [h.cn];rfl)
 ca:=by rw [World.cell?_setCell_other (h:=by simp)];exact h.ca
 fn:=by simp [h.fn]
 fa:=by simp [h.fa]
 gr:=h.gr.setCell (by simp) _
theorem Bt (s:ByteArray) (hs:s.size≤4611686018427387903) (w:World) :
  Calls Tryz.prog 127 #[.string s] w fun e w'=>
   e=.returned (.tuple #[.int .i64 (dD s.data.toList).1,.int .i64 (dD s.data.toList).2])∧Below w.heap.size w w':=by
 by_cases h0:s.size=0
 ·have he:s.data.toList=[]:=by
   have:s.data.toList.length=0:=by simpa using h0
   exact List.length_eq_zero_iff.1 this
  have he2:s.toList.isEmpty=true:=by
   rw [Lib.toList_data,he];rfl
  go_enter Tryz.func127,Tryz.ntmps127;go_wp2;go_ret2;exact⟨by rw [he];rfl,Below.refl _ _⟩
 ·have he2:s.toList.isEmpty=false:=by
   rw [Lib.toList_data];cases h:s.data.toList with
   | nil=>exact absurd (show s.size=0 from by
     have:s.data.toList.length=0:=by rw [h];rfl
     simpa using this) h0
   | cons=>rfl
  go_enter Tryz.func127,Tryz.ntmps127;go_wp2_with (go_at_call 154;refine (Co _).mono ?_;rintro e w' ⟨rfl,rfl⟩)
  go_loopw [5,6,7] (fun n e i wr=>∃ k:Nat,k≤s.size∧i=.int .i64 k∧n=.int .i64 (wF (mL (s.data.toList.take k))).1∧e=.int .i64 (wF (mL (s.data.toList.take k))).2∧
    (s.data.toList.take k).all jC=true∧sJ w (mL (s.data.toList.take k)).1 (mL (s.data.toList.take k)).2 wr) (fun _ _ i _=>s.size - (intOf i).toNat)
  case atStart=>exact⟨0,Nat.zero_le _,rfl,rfl,rfl,rfl,IA w⟩
  case round=>
   obtain⟨k,hk,rfl,rfl,rfl,hall,hkept⟩:=hrel;by_cases hkl:k<s.size
   ·have hbs:k<s.data.toList.length:=by simpa using hkl
    have hget:s.data.toList[k]=s[k]:=by rw [Array.getElem_toList];rfl
    have hlast:=uX _ k hbs;rw [hget] at hlast;rcases (show s[k].toNat<48∨57<s[k].toNat∨(48≤s[k].toNat∧s[k].toNat≤57) from by omega) with hl | hh | hd
    ·have hbad:dD s.data.toList=(0,11):=qA hbs (by rw [hget];simp [jC];omega);have Hbad:Hid (dD s.data.toList=(0,11)):=hbad;clear hbad hlast hget;go_wp2;go_ret2;exact⟨by rw [Hbad.out];rfl,hkept.gr⟩
    ·have hbad:dD s.data.toList=(0,11):=qA hbs (by rw [hget];simp [jC];omega);have Hbad:Hid (dD s.data.toList=(0,11)):=hbad;clear hbad hlast hget;go_wp2;go_ret2;exact⟨by rw [Hbad.out];rfl,hkept.gr⟩
    ·obtain⟨d0,d9⟩:=hd;have hb:=vG _ hall;have hdig:jC s[k]=true:=by simp [jC];omega
     have hall':(s.data.toList.take (k+1)).all jC=true:=by rw [hlast,List.all_append,hall];simp [hdig]
     have hnext:mL (s.data.toList.take (k+1))=mD (mL (s.data.toList.take k)) ((s[k].toNat:Int) - 48):=by rw [hlast,Ax]
     by_cases hab:(mL (s.data.toList.take k)).2=true∨(4611686018427387903 - ((s[k].toNat:Int) - 48)) / 10<(mL (s.data.toList.take k)).1
     ·have hst:mD (mL (s.data.toList.take k)) ((s[k].toNat:Int) - 48)=((mL (s.data.toList.take k)).1,true):=by unfold mD;rw [if_pos hab]
      have R:Hid (∀ wx,wr.setCell ⟨w.heap.size+1,0,none⟩ (.bool true)=wx→sJ w (mL (s.data.toList.take (k+1))).1 (mL (s.data.toList.take (k+1))).2 wx):=by
       rintro wx rfl;rw [hnext,hst];exact IC hkept
      have Hout:Hid (wF (mL (s.data.toList.take (k+1)))=(0,10)):=by
       show wF (mL (s.data.toList.take (k+1)))=(0,10)
       rw [hnext,hst];rfl
      have Hab:Hid ((mL (s.data.toList.take k)).2=true∨(4611686018427387903 - ((s[k].toNat:Int) - 48)) / 10<(mL (s.data.toList.take k)).1):=hab;have Hk:Hid (sJ w (mL (s.data.toList.take k)).1 (mL (s.data.toList.take k)).2 wr):=hkept;have Hall:Hid ((s.data.toList.take (k+1)).all jC=true):=hall';clear hlast hget hnext hst hall hall' hab hkept hb hdig;go_wp2_with fail;refine (Iz _ _ _ _ _ _ Hk.out.cn Hk.out.ca Hk.out.fa (by omega) (by omega) Hab.out).mono ?_;rintro e w1 ⟨rfl,hw⟩;have R1:Hid (sJ w (mL (s.data.toList.take (k+1))).1 (mL (s.data.toList.take (k+1))).2 w1):=R.out w1 hw;clear R hw Hab Hk;go_wp2;go_roundw
      case rel=>exact⟨k+1,by omega,by go_num,by rw [Hout.out],by rw [Hout.out],Hall.out,R1.out⟩
      case measure=>simp [intOf];omega
     ·have hb2:(mL (s.data.toList.take k)).2=false:=by
       cases hx:(mL (s.data.toList.take k)).2 with
       | false=>rfl
       | true=>exact absurd (Or.inl hx) hab
      have hle:(mL (s.data.toList.take k)).1≤(4611686018427387903 - ((s[k].toNat:Int) - 48)) / 10:=by
       rw [hb2] at hab;simp at hab;omega
      have hst:mD (mL (s.data.toList.take k)) ((s[k].toNat:Int) - 48)=(10*(mL (s.data.toList.take k)).1+((s[k].toNat:Int) - 48),false):=by unfold mD;rw [if_neg hab]
      have R:Hid (∀ wx,wr.setCell ⟨w.heap.size,0,none⟩ (.int .i64 (10*(mL (s.data.toList.take k)).1+((s[k].toNat:Int) - 48)))=wx→sJ w (mL (s.data.toList.take (k+1))).1 (mL (s.data.toList.take (k+1))).2 wx):=by
       rintro wx rfl;rw [hnext,hst];rw [hb2] at hkept;exact Mj hkept _
      have Hout:Hid (wF (mL (s.data.toList.take (k+1)))=(10*(mL (s.data.toList.take k)).1+((s[k].toNat:Int) - 48),0)):=by
       show wF (mL (s.data.toList.take (k+1)))=(10*(mL (s.data.toList.take k)).1+((s[k].toNat:Int) - 48),0)
       rw [hnext,hst];rfl
      have Hk:Hid (sJ w (mL (s.data.toList.take k)).1 false wr):=by rw [hb2] at hkept;exact hkept
      have Hle:Hid ((mL (s.data.toList.take k)).1≤(4611686018427387903 - ((s[k].toNat:Int) - 48)) / 10):=hle;have Hb:Hid (0≤(mL (s.data.toList.take k)).1):=hb.1;have Hall:Hid ((s.data.toList.take (k+1)).all jC=true):=hall';clear hlast hget hnext hst hall hall' hab hkept hb hdig hb2 hle;go_wp2_with fail;refine (Mi _ _ _ _ _ Hk.out.cn Hk.out.ca Hk.out.fn (by omega) (by omega) Hb.out Hle.out).mono ?_;rintro e w1 ⟨rfl,hw⟩;have R1:Hid (sJ w (mL (s.data.toList.take (k+1))).1 (mL (s.data.toList.take (k+1))).2 w1):=R.out w1 hw;clear R hw Hk Hle Hb;go_wp2;go_roundw
      case rel=>exact⟨k+1,by omega,by go_num,by rw [Hout.out],by rw [Hout.out],Hall.out,R1.out⟩
      case measure=>simp [intOf];omega
   ·have hke:s.data.toList.length=k:=by simp;omega
    have hfull:dD s.data.toList=wF (mL (s.data.toList.take k)):=by
     rw [← hke,List.take_length];refine rG ?_ ?_
     ·intro h;rw [h] at hke;simp at hke;omega
     ·rw [← hke,List.take_length] at hall;exact hall
    have Hfull:Hid (dD s.data.toList=wF (mL (s.data.toList.take k))):=hfull;have Hgr:Hid (Below w.heap.size w wr):=hkept.gr;clear hfull hke hall hkept;go_wp2;go_ret2;exact⟨by rw [Hfull.out];rfl,Hgr.out⟩
theorem nY (s:ByteArray) (hs:s.size≤4611686018427387903) (w:World) :
  Calls Tryz.prog 53 #[.string s] w fun e w'=>
   e=.returned (.tuple #[.int .i64 (dD s.data.toList).1,.int .i64 (dD s.data.toList).2])∧w=w':=by
 go_enter Tryz.func53,Tryz.ntmps53;go_wp2;go_loop [4,5,6,7] (fun n big i d=>∃ k:Nat,k≤s.size∧i=.int .i64 k∧n=.int .i64 (mL (s.data.toList.take k)).1∧big=.bool (mL (s.data.toList.take k)).2∧
   (s.data.toList.take k).all jC=true) (fun _ _ i _=>s.size - (intOf i).toNat)
 case atStart=>exact⟨0,Nat.zero_le _,rfl,rfl,rfl,rfl⟩
 case round=>
  obtain⟨k,hk,rfl,rfl,rfl,hall⟩:=hrel;by_cases hkl:k<s.size
  ·have hbs:k<s.data.toList.length:=by simpa using hkl
   have hget:s.data.toList[k]=s[k]:=by rw [Array.getElem_toList];rfl
   have hlast:=uX _ k hbs;rw [hget] at hlast;rcases (show s[k].toNat<48∨57<s[k].toNat∨(48≤s[k].toNat∧s[k].toNat≤57) from by omega) with hl | hh | hd
   ·have Hbad:=aA (qA hbs (by rw [hget];simp [jC];omega));clear hlast hget hall;go_wp2;go_ret2;exact⟨by rw [Hbad.out];rfl,rfl⟩
   ·have Hbad:=aA (qA hbs (by rw [hget];simp [jC];omega));clear hlast hget hall;go_wp2;go_ret2;exact⟨by rw [Hbad.out];rfl,rfl⟩
   ·obtain⟨d0,d9⟩:=hd;have hb:=vG _ hall;have hdig:jC s[k]=true:=by simp [jC];omega
    have hall':(s.data.toList.take (k+1)).all jC=true:=by rw [hlast,List.all_append,hall];simp [hdig]
    have hnext:mL (s.data.toList.take (k+1))=mD (mL (s.data.toList.take k)) ((s[k].toNat:Int) - 48):=by rw [hlast,Ax]
    have Hall:=aA hall';clear hlast hget hall hall' hdig;generalize hst0:mL (s.data.toList.take k)=st at *
    obtain⟨n,ab⟩:=st;simp only at hb;cases ab
    ·by_cases hab:(4611686018427387903 - ((s[k].toNat:Int) - 48)) / 10<n
     ·have Hst:Hid (mL (s.data.toList.take (k+1))=(n,true)):=by
       refine aA ?_;rw [hnext];unfold mD;rw [if_pos (Or.inr hab)]
      clear hnext hst0;go_wp2;go_round
      case rel=>exact⟨k+1,by omega,by go_num,by rw [Hst.out],by rw [Hst.out],Hall.out⟩
      case measure=>simp [intOf];omega
     ·have Hst:Hid (mL (s.data.toList.take (k+1))=(10*n+((s[k].toNat:Int) - 48),false)):=by
       refine aA ?_;rw [hnext];unfold mD;rw [if_neg (by simp;omega)]
      clear hnext hst0;go_wp2;go_round
      case rel=>exact⟨k+1,by omega,by go_num,by rw [Hst.out];simp;omega,by rw [Hst.out],Hall.out⟩
      case measure=>simp [intOf];omega
    ·have Hst:Hid (mL (s.data.toList.take (k+1))=(n,true)):=by
      refine aA ?_;rw [hnext];unfold mD;rw [if_pos (Or.inl rfl)]
     clear hnext hst0;go_wp2;go_round
     case rel=>exact⟨k+1,by omega,by go_num,by rw [Hst.out],by rw [Hst.out],Hall.out⟩
     case measure=>simp [intOf];omega
  ·have hke:s.data.toList.length=k:=by simp;omega
   by_cases h0:k=0
   ·have Hout:Hid (dD s.data.toList=(0,11)):=by
     refine aA ?_;rw [h0] at hke;rw [List.length_eq_zero_iff.1 hke];rfl
    have hz:s.size=0:=by omega
    have hz2:((s.size:Int)==0)=true:=by simp [hz]
    clear hke hall hz;go_wp2;go_ret2;exact⟨by rw [Hout.out];rfl,rfl⟩
   ·have hfull:dD s.data.toList=wF (mL (s.data.toList.take k)):=by
     rw [← hke,List.take_length];refine rG ?_ ?_
     ·intro h;rw [h] at hke;simp at hke;omega
     ·rw [← hke,List.take_length] at hall;exact hall
    have hz2:((s.size:Int)==0)=false:=beq_eq_false_iff_ne.2 (by omega);generalize hst0:mL (s.data.toList.take k)=st at *
    obtain⟨n,ab⟩:=st;have Hfull:=aA hfull;clear hfull hke hall hst0;cases ab
    ·go_wp2;go_ret2;exact⟨by rw [Hfull.out];rfl,rfl⟩
    ·go_wp2;go_ret2;exact⟨by rw [Hfull.out];rfl,rfl⟩
end Go.Proofs.YtdnnmjhfidimcaaGreatDoor
