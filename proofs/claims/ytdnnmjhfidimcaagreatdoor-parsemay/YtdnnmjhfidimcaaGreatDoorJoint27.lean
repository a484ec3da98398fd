/- The longest sign that comes. What num.Read and the document's Read answer, for any text (NumRead, NumReads and RefNum's Read again, for cuts without num's other functions, ending in Below). -/
import Derived.Test.YtdnnmjhfidimcaaGreatDoorJoint23
import Derived.Deep.MidRow
import Derived.Test.YtdnnmjhfidimcaaGreatDoorProg
import Derived.Test.YtdnnmjhfidimcaaGreatDoorJoint2
import Derived.Test.YtdnnmjhfidimcaaGreatDoorJoint1
import Derived.Lib.Strings
namespace Go.Proofs.YtdnnmjhfidimcaaGreatDoor
open Go.RowKit

theorem yzo:∀ (L:List (List UInt8)) (l:List UInt8) (j:Nat) (h:j<L.length),rzg L[j] l=false→Xzc (L.drop j) l=Xzc (L.drop (j+1)) l:=by
 intro L l j h hp;rw [List.drop_eq_getElem_cons h];unfold rzg at hp;simp [Xzc,hp]
theorem zzo:∀ (L:List (List UInt8)) (l:List UInt8) (j:Nat) (h:j<L.length),rzg L[j] l=true→Xzc (L.drop j) l=L[j]:=by
 intro L l j h hp;rw [List.drop_eq_getElem_cons h];unfold rzg at hp;simp [Xzc,hp]

theorem ezv {w:World} (h:Xzd 0 sgnL w):w.rangeAt 0 0 (sgnL.map fun l=>Value.string ⟨l.toArray⟩):=by
 intro j v hv;rw [List.getElem?_map,Option.map_eq_some_iff] at hv;obtain⟨l,hl,rfl⟩:=hv;obtain⟨hj,rfl⟩:=List.getElem?_eq_some_iff.1 hl;simpa using h j hj

theorem Ezy (A:Array Value) (x:ByteArray) (j:Nat) (hj:j<25) (h:A[j]? = some (.string x)) (w:World) :
  (Instr.index 138 (.agg A) (.int .i64 (j:Int))).run Tryz.prog w=.ok (.string x) w:=by
 simp [go_sem,Instr.index,part,h,asIntOf];omega

set_option maxRecDepth 100000 in
theorem fzj (s:ByteArray) (w:World) (SG:Hid (Xzd 0 sgnL w)) :
  Calls Tryz.prog 130 #[.string s] w fun e w'=>e=.returned (.string ⟨(signL s.data.toList).toArray⟩)∧w=w':=by
 go_enter Tryz.func130,Tryz.ntmps130;go_wp2_with (refine wpList_load_mid rfl 138 _ rfl 0 0 rfl _ _ (ezv SG.out) Tryz.underlying138 rfl (by kernel_rfl) ?_)
 generalize hA:(List.map (fun l=>Value.string ⟨l.toArray⟩) sgnL).toArray=A;have hAt:Hid (∀ (j:Nat) (h:j<sgnL.length),A[j]? = some (.string ⟨(sgnL[j]).toArray⟩)):=hid fun j h=>by rw [← hA];simp [h]
 have h25:sgnL.length=25:=rfl;clear hA;go_wp2;go_loop [6] (fun i=>∃ j:Nat,j≤25∧i=.int .i64 j∧signL s.data.toList=Xzc (sgnL.drop j) s.data.toList) (fun i=>25 - (intOf i).toNat)
 case atStart=>exact⟨0,by omega,rfl,rfl⟩
 case round=>
  obtain⟨j,hj,rfl,hf⟩:=hrel;by_cases hjl:j<25
  ·have hjL:j<sgnL.length:=by omega
   have c:=Ezy A _ j hjl (hAt.out j hjL) w;cases hp:rzg sgnL[j] s.data.toList with
   | true=>
    have H:=hid (hf.trans (zzo sgnL _ j hjL hp));have Hp:=hid hp;clear hp hf;generalize sgnL[j]=x at *
    go_wp2_with fail;refine (czf _ _ _).mono ?_;rintro e w1 ⟨rfl,rfl⟩;rw [Hp.out];go_wp2;go_ret;exact⟨by rw [H.out];rfl,rfl⟩
   | false=>
    have H:=hid (hf.trans (yzo sgnL _ j hjL hp));have Hp:=hid hp;clear hp hf;generalize sgnL[j]=x at *
    go_wp2_with fail;refine (czf _ _ _).mono ?_;rintro e w1 ⟨rfl,rfl⟩;rw [Hp.out];go_wp2;go_round
    case rel=>exact⟨j+1,by omega,by go_num,H.out⟩
    case measure=>simp [intOf];omega
  ·have H:=hid (hf.trans (show Xzc (sgnL.drop j) s.data.toList=[] by rw [List.drop_of_length_le (by omega)];rfl));clear hf;go_wp2;go_ret;exact⟨by rw [H.out];rfl,rfl⟩

end Go.Proofs.YtdnnmjhfidimcaaGreatDoor

namespace Go.Proofs.YtdnnmjhfidimcaaGreatDoor
open Go.RowKit

/-! the closure of num.reading -/
theorem ezs (d n:Int) (pa pn:Nat) (w:World) (ab:Bool) (hn:w.cell? ⟨pn,0,none⟩=some (.int .i64 n)) (ha:w.cell? ⟨pa,0,none⟩=some (.bool ab))
  (fa:w.frozen? ⟨pa,0,none⟩=false) (d0:0≤d) (d9:d≤9) (h:ab=true∨(4611686018427387903 - d) / 10<n) :
  Calls Tryz.prog 168 #[.int .i64 d,.pointer (some ⟨pa,0,none⟩),.pointer (some ⟨pn,0,none⟩)] w fun e w'=>
   e=.returned (.tuple #[.int .i64 0,.int .i64 10])∧w.setCell ⟨pa,0,none⟩ (.bool true)=w':=by
 cases ab
 ·have h2:(4611686018427387903 - d) / 10<n:=by simpa using h
  clear h;go_enter Tryz.func168,Tryz.ntmps168;go_wp2;go_ret2;exact⟨rfl,rfl⟩
 ·clear h;go_enter Tryz.func168,Tryz.ntmps168;go_wp2;go_ret2;exact⟨rfl,rfl⟩

theorem hzv (d n:Int) (pa pn:Nat) (w:World) (hn:w.cell? ⟨pn,0,none⟩=some (.int .i64 n)) (ha:w.cell? ⟨pa,0,none⟩=some (.bool false))
  (fn:w.frozen? ⟨pn,0,none⟩=false) (d0:0≤d) (d9:d≤9) (n0:0≤n) (h:n≤(4611686018427387903 - d) / 10) :
  Calls Tryz.prog 168 #[.int .i64 d,.pointer (some ⟨pa,0,none⟩),.pointer (some ⟨pn,0,none⟩)] w fun e w'=>
   e=.returned (.tuple #[.int .i64 (10*n+d),.int .i64 0])∧w.setCell ⟨pn,0,none⟩ (.int .i64 (10*n+d))=w':=by
 go_enter Tryz.func168,Tryz.ntmps168;go_wp2;go_ret2;exact⟨rfl,rfl⟩

theorem dzn (w:World) :
  Calls Tryz.prog 154 #[] w fun e w'=>
   e=.returned (.func (.func 168) #[] #[.pointer (some ⟨w.heap.size+1,0,none⟩),.pointer (some ⟨w.heap.size,0,none⟩)])∧
    (w.alloc (Obj.cells #[.int .i64 0] 3)).alloc (Obj.cells #[.bool false] 4)=w':=by
 have hmf:∀ (fn:Fn) (first cap:Array Value) (w:World),(Instr.makeFunc fn first cap).run Tryz.prog w=.ok (.func fn first cap) w:=fun _ _ _ _=>rfl
 go_enter Tryz.func154,Tryz.ntmps154;go_wp2;go_ret;exact⟨rfl,rfl⟩

structure Vzh (w:World) (n:Int) (ab:Bool) (wr:World):Prop where
 cn:wr.cell? ⟨w.heap.size,0,none⟩=some (.int .i64 n)
 ca:wr.cell? ⟨w.heap.size+1,0,none⟩=some (.bool ab)
 fn:wr.frozen? ⟨w.heap.size,0,none⟩=false
 fa:wr.frozen? ⟨w.heap.size+1,0,none⟩=false
 gr:Below w.heap.size w wr

theorem fzs (w:World):Vzh w 0 false ((w.alloc (Obj.cells #[.int .i64 0] 3)).alloc (Obj.cells #[.bool false] 4)) where
 cn:=by simp
 ca:=by simp
 fn:=by simp
 fa:=by simp
 gr:=((Below.refl _ _).alloc (Nat.le_refl _) _).alloc (by simp) _

theorem gzs {w wr:World} {n:Int} {ab:Bool} (h:Vzh w n ab wr):Vzh w n true (wr.setCell ⟨w.heap.size+1,0,none⟩ (.bool true)) where
 cn:=by rw [World.cell?_setCell_other (h:=by simp)];exact h.cn
 ca:=World.cell?_setCell_same' _ _ _ (by rw [h.ca];rfl)
 fn:=by simp [h.fn]
 fa:=by simp [h.fa]
 gr:=h.gr.setCell (by simp) _

theorem izv {w wr:World} {n:Int} {ab:Bool} (h:Vzh w n ab wr) (m:Int):Vzh w m ab (wr.setCell ⟨w.heap.size,0,none⟩ (.int .i64 m)) where
 cn:=World.cell?_setCell_same' _ _ _ (by rw [h.cn];rfl)
 ca:=by rw [World.cell?_setCell_other (h:=by simp)];exact h.ca
 fn:=by simp [h.fn]
 fa:=by simp [h.fa]
 gr:=h.gr.setCell (by simp) _

set_option maxHeartbeats 800000 in
theorem pzm (s:ByteArray) (hs:s.size≤4611686018427387903) (w:World) :
  Calls Tryz.prog 127 #[.string s] w fun e w'=>
   e=.returned (.tuple #[.int .i64 (zzc s.data.toList).1,.int .i64 (zzc s.data.toList).2])∧Below w.heap.size w w':=by
 by_cases h0:s.size=0
 ·have he:s.data.toList=[]:=by
   have:s.data.toList.length=0:=by simpa using h0
   exact List.length_eq_zero_iff.1 this
  have he2:s.toList.isEmpty=true:=by
   rw [Lib.toList_data,he];rfl
  go_enter Tryz.func127,Tryz.ntmps127;go_wp2;go_ret2;exact⟨by rw [he];rfl,Below.refl _ _⟩
 ·have he2:s.toList.isEmpty=false:=by
   rw [Lib.toList_data];cases h:s.data.toList with
   | nil=>exact absurd (show s.size=0 from by have:s.data.toList.length=0:=by rw [h];rfl
                          simpa using this) h0
   | cons=>rfl
  go_enter Tryz.func127,Tryz.ntmps127;go_wp2_with (go_at_call 154;refine (dzn _).mono ?_;rintro e w' ⟨rfl,rfl⟩)
  go_loopw [5,6,7] (fun n e i wr=>∃ k:Nat,k≤s.size∧i=.int .i64 k∧n=.int .i64 (ozk (rst (s.data.toList.take k))).1∧e=.int .i64 (ozk (rst (s.data.toList.take k))).2∧
    (s.data.toList.take k).all Oze=true∧Vzh w (rst (s.data.toList.take k)).1 (rst (s.data.toList.take k)).2 wr) (fun _ _ i _=>s.size - (intOf i).toNat)
  case atStart=>exact⟨0,Nat.zero_le _,rfl,rfl,rfl,rfl,fzs w⟩
  case round=>
   obtain⟨k,hk,rfl,rfl,rfl,hall,hkept⟩:=hrel;by_cases hkl:k<s.size
   ·have hbs:k<s.data.toList.length:=by simpa using hkl
    have hget:s.data.toList[k]=s[k]:=by rw [Array.getElem_toList];rfl
    have hlast:=Tzm _ k hbs;rw [hget] at hlast;rcases (show s[k].toNat<48∨57<s[k].toNat∨(48≤s[k].toNat∧s[k].toNat≤57) from by omega) with hl | hh | hd
    ·have hbad:zzc s.data.toList=(0,11):=Kzk hbs (by rw [hget];simp [Oze];omega);have Hbad:Hid (zzc s.data.toList=(0,11)):=hbad;clear hbad hlast hget;go_wp2;go_ret2;exact⟨by rw [Hbad.out];rfl,hkept.gr⟩
    ·have hbad:zzc s.data.toList=(0,11):=Kzk hbs (by rw [hget];simp [Oze];omega);have Hbad:Hid (zzc s.data.toList=(0,11)):=hbad;clear hbad hlast hget;go_wp2;go_ret2;exact⟨by rw [Hbad.out];rfl,hkept.gr⟩
    ·obtain⟨d0,d9⟩:=hd;have hb:=Czl _ hall;have hdig:Oze s[k]=true:=by simp [Oze];omega
     have hall':(s.data.toList.take (k+1)).all Oze=true:=by rw [hlast,List.all_append,hall];simp [hdig]
     have hnext:rst (s.data.toList.take (k+1))=qzg (rst (s.data.toList.take k)) ((s[k].toNat:Int) - 48):=by rw [hlast,fzp]
     by_cases hab:(rst (s.data.toList.take k)).2=true∨(4611686018427387903 - ((s[k].toNat:Int) - 48)) / 10<(rst (s.data.toList.take k)).1
     ·have hst:qzg (rst (s.data.toList.take k)) ((s[k].toNat:Int) - 48)=((rst (s.data.toList.take k)).1,true):=by unfold qzg;rw [if_pos hab]
      have R:Hid (∀ wx,wr.setCell ⟨w.heap.size+1,0,none⟩ (.bool true)=wx→Vzh w (rst (s.data.toList.take (k+1))).1 (rst (s.data.toList.take (k+1))).2 wx):=by
       rintro wx rfl;rw [hnext,hst];exact gzs hkept
      have Hout:Hid (ozk (rst (s.data.toList.take (k+1)))=(0,10)):=by
       show ozk (rst (s.data.toList.take (k+1)))=(0,10)
       rw [hnext,hst];rfl
      have Hab:Hid ((rst (s.data.toList.take k)).2=true∨(4611686018427387903 - ((s[k].toNat:Int) - 48)) / 10<(rst (s.data.toList.take k)).1):=hab;have Hk:Hid (Vzh w (rst (s.data.toList.take k)).1 (rst (s.data.toList.take k)).2 wr):=hkept;have Hall:Hid ((s.data.toList.take (k+1)).all Oze=true):=hall';clear hlast hget hnext hst hall hall' hab hkept hb hdig;go_wp2_with fail;refine (ezs _ _ _ _ _ _ Hk.out.cn Hk.out.ca Hk.out.fa (by omega) (by omega) Hab.out).mono ?_;rintro e w1 ⟨rfl,hw⟩;have R1:Hid (Vzh w (rst (s.data.toList.take (k+1))).1 (rst (s.data.toList.take (k+1))).2 w1):=R.out w1 hw;clear R hw Hab Hk;go_wp2;go_roundw
      case rel=>exact⟨k+1,by omega,by go_num,by rw [Hout.out],by rw [Hout.out],Hall.out,R1.out⟩
      case measure=>simp [intOf];omega
     ·have hb2:(rst (s.data.toList.take k)).2=false:=by
       cases hx:(rst (s.data.toList.take k)).2 with
       | false=>rfl
       | true=>exact absurd (Or.inl hx) hab
      have hle:(rst (s.data.toList.take k)).1≤(4611686018427387903 - ((s[k].toNat:Int) - 48)) / 10:=by
       rw [hb2] at hab;simp at hab;omega
      have hst:qzg (rst (s.data.toList.take k)) ((s[k].toNat:Int) - 48)=(10*(rst (s.data.toList.take k)).1+((s[k].toNat:Int) - 48),false):=by unfold qzg;rw [if_neg hab]
      have R:Hid (∀ wx,wr.setCell ⟨w.heap.size,0,none⟩ (.int .i64 (10*(rst (s.data.toList.take k)).1+((s[k].toNat:Int) - 48)))=wx→Vzh w (rst (s.data.toList.take (k+1))).1 (rst (s.data.toList.take (k+1))).2 wx):=by
       rintro wx rfl;rw [hnext,hst];rw [hb2] at hkept;exact izv hkept _
      have Hout:Hid (ozk (rst (s.data.toList.take (k+1)))=(10*(rst (s.data.toList.take k)).1+((s[k].toNat:Int) - 48),0)):=by
       show ozk (rst (s.data.toList.take (k+1)))=(10*(rst (s.data.toList.take k)).1+((s[k].toNat:Int) - 48),0)
       rw [hnext,hst];rfl
      have Hk:Hid (Vzh w (rst (s.data.toList.take k)).1 false wr):=by rw [hb2] at hkept;exact hkept
      have Hle:Hid ((rst (s.data.toList.take k)).1≤(4611686018427387903 - ((s[k].toNat:Int) - 48)) / 10):=hle;have Hb:Hid (0≤(rst (s.data.toList.take k)).1):=hb.1;have Hall:Hid ((s.data.toList.take (k+1)).all Oze=true):=hall';clear hlast hget hnext hst hall hall' hab hkept hb hdig hb2 hle;go_wp2_with fail;refine (hzv _ _ _ _ _ Hk.out.cn Hk.out.ca Hk.out.fn (by omega) (by omega) Hb.out Hle.out).mono ?_;rintro e w1 ⟨rfl,hw⟩;have R1:Hid (Vzh w (rst (s.data.toList.take (k+1))).1 (rst (s.data.toList.take (k+1))).2 w1):=R.out w1 hw;clear R hw Hk Hle Hb;go_wp2;go_roundw
      case rel=>exact⟨k+1,by omega,by go_num,by rw [Hout.out],by rw [Hout.out],Hall.out,R1.out⟩
      case measure=>simp [intOf];omega
   ·have hke:s.data.toList.length=k:=by simp;omega
    have hfull:zzc s.data.toList=ozk (rst (s.data.toList.take k)):=by
     rw [← hke,List.take_length];refine Fzj ?_ ?_
     ·intro h;rw [h] at hke;simp at hke;omega
     ·rw [← hke,List.take_length] at hall;exact hall
    have Hfull:Hid (zzc s.data.toList=ozk (rst (s.data.toList.take k))):=hfull;have Hgr:Hid (Below w.heap.size w wr):=hkept.gr;clear hfull hke hall hkept;go_wp2;go_ret2;exact⟨by rw [Hfull.out];rfl,Hgr.out⟩

end Go.Proofs.YtdnnmjhfidimcaaGreatDoor
