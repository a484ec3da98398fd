/- The longest sign that comes. What num.Read and the document's Read answer, for any text (NumRead, NumReads and RefNum's Read again, for cuts without num's other functions, ending in Below). -/
import Derived.Test.YtdnnmjhfidimcaaGreatDoorJoint23
import Derived.Deep.MidRow
import Derived.Test.YtdnnmjhfidimcaaGreatDoorProg
import Derived.Test.YtdnnmjhfidimcaaGreatDoorJoint2
import Derived.Test.YtdnnmjhfidimcaaGreatDoorJoint1
import Derived.Lib.Strings
namespace Go.Proofs.YtdnnmjhfidimcaaGreatDoor
set_option maxRecDepth 100000
set_option maxHeartbeats 800000
open Go.RowKit
theorem CM:∀ (L:List (List UInt8)) (l:List UInt8) (j:Nat) (h:j<L.length),nY L[j] l=false→gB (L.drop j) l=gB (L.drop (j+1)) l:=by
 intro L l j h hp;rw [List.drop_eq_getElem_cons h];unfold nY at hp;simp [gB,hp]
theorem CN:∀ (L:List (List UInt8)) (l:List UInt8) (j:Nat) (h:j<L.length),nY L[j] l=true→gB (L.drop j) l=L[j]:=by
 intro L l j h hp;rw [List.drop_eq_getElem_cons h];unfold nY at hp;simp [gB,hp]
theorem KH {w:World} (h:iZ 0 sgnL w):w.rangeAt 0 0 (sgnL.map fun l=>Value.string ⟨l.toArray⟩):=by
 intro j v hv;rw [List.getElem?_map,Option.map_eq_some_iff] at hv;obtain⟨l,hl,rfl⟩:=hv;obtain⟨hj,rfl⟩:=List.getElem?_eq_some_iff.1 hl;simpa using h j hj
theorem OA (A:Array Value) (x:ByteArray) (j:Nat) (hj:j<25) (h:A[j]? = some (.string x)) (w:World) :
  (Instr.index 138 (.agg A) (.int .i64 (j:Int))).run Tryz.prog w=.ok (.string x) w:=by
 simp [go_sem,Instr.index,part,h,asIntOf];omega
theorem tT (s:ByteArray) (w:World) (SG:Hid (iZ 0 sgnL w)) :
  Calls Tryz.prog 130 #[.string s] w fun e w'=>e=.returned (.string ⟨(signL s.data.toList).toArray⟩)∧w=w':=by
 go_enter Tryz.func130,Tryz.ntmps130;go_wp2_with (refine wpList_load_mid rfl 138 _ rfl 0 0 rfl _ _ (KH SG.out) Tryz.underlying138 rfl (by kernel_rfl) ?_)
 generalize hA:(List.map (fun l=>Value.string ⟨l.toArray⟩) sgnL).toArray=A;have hAt:Hid (∀ (j:Nat) (h:j<sgnL.length),A[j]? = some (.string ⟨(sgnL[j]).toArray⟩)):=aA fun j h=>by rw [← hA];simp [h]
 have h25:sgnL.length=25:=rfl;clear hA;go_wp2;go_loop [6] (fun i=>∃ j:Nat,j≤25∧i=.int .i64 j∧signL s.data.toList=gB (sgnL.drop j) s.data.toList) (fun i=>25 - (intOf i).toNat)
 case atStart=>exact⟨0,by omega,rfl,rfl⟩
 case round=>
  obtain⟨j,hj,rfl,hf⟩:=hrel;by_cases hjl:j<25
  ·have hjL:j<sgnL.length:=by omega
   have c:=OA A _ j hjl (hAt.out j hjL) w;cases hp:nY sgnL[j] s.data.toList with
   | true=>
    have H:=aA (hf.trans (CN sgnL _ j hjL hp));have Hp:=aA hp;clear hp hf;generalize sgnL[j]=x at *
    go_wp2_with fail;refine (lH _ _ _).mono ?_;rintro e w1 ⟨rfl,rfl⟩;rw [Hp.out];go_wp2;go_ret;exact⟨by rw [H.out];rfl,rfl⟩
   | false=>
    have H:=aA (hf.trans (CM sgnL _ j hjL hp));have Hp:=aA hp;clear hp hf;generalize sgnL[j]=x at *
    go_wp2_with fail;refine (lH _ _ _).mono ?_;rintro e w1 ⟨rfl,rfl⟩;rw [Hp.out];go_wp2;go_round
    case rel=>exact⟨j+1,by omega,by go_num,H.out⟩
    case measure=>simp [intOf];omega
  ·have H:=aA (hf.trans (show gB (sgnL.drop j) s.data.toList=[] by rw [List.drop_of_length_le (by omega)];rfl));clear hf;go_wp2;go_ret;exact⟨by rw [H.out];rfl,rfl⟩
/-! the closure of num.reading -/
theorem GG (d n:Int) (pa pn:Nat) (w:World) (ab:Bool) (hn:w.cell? ⟨pn,0,none⟩=some (.int .i64 n)) (ha:w.cell? ⟨pa,0,none⟩=some (.bool ab))
  (fa:w.frozen? ⟨pa,0,none⟩=false) (d0:0≤d) (d9:d≤9) (h:ab=true∨(4611686018427387903 - d) / 10<n) :
  Calls Tryz.prog 168 #[.int .i64 d,.pointer (some ⟨pa,0,none⟩),.pointer (some ⟨pn,0,none⟩)] w fun e w'=>
   e=.returned (.tuple #[.int .i64 0,.int .i64 10])∧w.setCell ⟨pa,0,none⟩ (.bool true)=w':=by
 cases ab
 ·have h2:(4611686018427387903 - d) / 10<n:=by simpa using h
  clear h;go_enter Tryz.func168,Tryz.ntmps168;go_wp2;go_ret2;exact⟨rfl,rfl⟩
 ·clear h;go_enter Tryz.func168,Tryz.ntmps168;go_wp2;go_ret2;exact⟨rfl,rfl⟩
theorem KM (d n:Int) (pa pn:Nat) (w:World) (hn:w.cell? ⟨pn,0,none⟩=some (.int .i64 n)) (ha:w.cell? ⟨pa,0,none⟩=some (.bool false))
  (fn:w.frozen? ⟨pn,0,none⟩=false) (d0:0≤d) (d9:d≤9) (n0:0≤n) (h:n≤(4611686018427387903 - d) / 10) :
  Calls Tryz.prog 168 #[.int .i64 d,.pointer (some ⟨pa,0,none⟩),.pointer (some ⟨pn,0,none⟩)] w fun e w'=>
   e=.returned (.tuple #[.int .i64 (10*n+d),.int .i64 0])∧w.setCell ⟨pn,0,none⟩ (.int .i64 (10*n+d))=w':=by
 go_enter Tryz.func168,Tryz.ntmps168;go_wp2;go_ret2;exact⟨rfl,rfl⟩
theorem Bj (w:World) :
  Calls Tryz.prog 154 #[] w fun e w'=>
   e=.returned (.func (.func 168) #[] #[.pointer (some ⟨w.heap.size+1,0,none⟩),.pointer (some ⟨w.heap.size,0,none⟩)])∧
    (w.alloc (Obj.cells #[.int .i64 0] 3)).alloc (Obj.cells #[.bool false] 4)=w':=by
 have hmf:∀ (fn:Fn) (first cap:Array Value) (w:World),(Instr.makeFunc fn first cap).run Tryz.prog w=.ok (.func fn first cap) w:=fun _ _ _ _=>rfl
 go_enter Tryz.func154,Tryz.ntmps154;go_wp2;go_ret;exact⟨rfl,rfl⟩
structure rE (w:World) (n:Int) (ab:Bool) (wr:World):Prop where
 cn:wr.cell? ⟨w.heap.size,0,none⟩=some (.int .i64 n)
 ca:wr.cell? ⟨w.heap.size+1,0,none⟩=some (.bool ab)
 fn:wr.frozen? ⟨w.heap.size,0,none⟩=false
 fa:wr.frozen? ⟨w.heap.size+1,0,none⟩=false
 gr:Below w.heap.size w wr
theorem GH (w:World):rE w 0 false ((w.alloc (Obj.cells #[.int .i64 0] 3)).alloc (Obj.cells #[.bool false] 4)) where
 cn:=by simp
 ca:=by simp
 fn:=by simp
 fa:=by simp
 gr:=((Below.refl _ _).alloc (Nat.le_refl _) _).alloc (by simp) _
theorem GI {w wr:World} {n:Int} {ab:Bool} (h:rE w n ab wr):rE w n true (wr.setCell ⟨w.heap.size+1,0,none⟩ (.bool true)) where
 cn:=by rw [World.cell?_setCell_other (h:=by simp)];exact h.cn
 ca:=World.cell?_setCell_same' _ _ _ (by rw [h.ca];rfl)
 fn:=by simp [h.fn]
 fa:=by simp [h.fa]
 gr:=h.gr.setCell (by simp) _
theorem KN {w wr:World} {n:Int} {ab:Bool} (h:rE w n ab wr) (m:Int):rE w m ab (wr.setCell ⟨w.heap.size,0,none⟩ (.int .i64 m)) where
 cn:=World.cell?_setCell_same' _ _ _ (by rw [h.cn];rfl)
 ca:=by rw [World.cell?_setCell_other (h:=by simp)];exact h.ca
 fn:=by simp [h.fn]
 fa:=by simp [h.fa]
 gr:=h.gr.setCell (by simp) _
theorem Ao (s:ByteArray) (hs:s.size≤4611686018427387903) (w:World) :
  Calls Tryz.prog 127 #[.string s] w fun e w'=>
   e=.returned (.tuple #[.int .i64 (fA s.data.toList).1,.int .i64 (fA s.data.toList).2])∧Below w.heap.size w w':=by
 by_cases h0:s.size=0
 ·have he:s.data.toList=[]:=by
   have:s.data.toList.length=0:=by simpa using h0
   exact List.length_eq_zero_iff.1 this
  have he2:s.toList.isEmpty=true:=by
   rw [Lib.toList_data,he];rfl
  go_enter Tryz.func127,Tryz.ntmps127;go_wp2;go_ret2;exact⟨by rw [he];rfl,Below.refl _ _⟩
 ·have he2:s.toList.isEmpty=false:=by
   rw [Lib.toList_data];cases h:s.data.toList with
   | nil=>exact absurd (show s.size=0 from by
     have:s.data.toList.length=0:=by rw [h];rfl
     simpa using this) h0
   | cons=>rfl
  go_enter Tryz.func127,Tryz.ntmps127;go_wp2_with (go_at_call 154;refine (Bj _).mono ?_;rintro e w' ⟨rfl,rfl⟩)
  go_loopw [5,6,7] (fun n e i wr=>∃ k:Nat,k≤s.size∧i=.int .i64 k∧n=.int .i64 (wD (nZ (s.data.toList.take k))).1∧e=.int .i64 (wD (nZ (s.data.toList.take k))).2∧
    (s.data.toList.take k).all kS=true∧rE w (nZ (s.data.toList.take k)).1 (nZ (s.data.toList.take k)).2 wr) (fun _ _ i _=>s.size - (intOf i).toNat)
  case atStart=>exact⟨0,Nat.zero_le _,rfl,rfl,rfl,rfl,GH w⟩
  case round=>
   obtain⟨k,hk,rfl,rfl,rfl,hall,hkept⟩:=hrel;by_cases hkl:k<s.size
   ·have hbs:k<s.data.toList.length:=by simpa using hkl
    have hget:s.data.toList[k]=s[k]:=by rw [Array.getElem_toList];rfl
    have hlast:=AY _ k hbs;rw [hget] at hlast;rcases (show s[k].toNat<48∨57<s[k].toNat∨(48≤s[k].toNat∧s[k].toNat≤57) from by omega) with hl | hh | hd
    ·have hbad:fA s.data.toList=(0,11):=xA hbs (by rw [hget];simp [kS];omega);have Hbad:Hid (fA s.data.toList=(0,11)):=hbad;clear hbad hlast hget;go_wp2;go_ret2;exact⟨by rw [Hbad.out];rfl,hkept.gr⟩
    ·have hbad:fA s.data.toList=(0,11):=xA hbs (by rw [hget];simp [kS];omega);have Hbad:Hid (fA s.data.toList=(0,11)):=hbad;clear hbad hlast hget;go_wp2;go_ret2;exact⟨by rw [Hbad.out];rfl,hkept.gr⟩
    ·obtain⟨d0,d9⟩:=hd;have hb:=yT _ hall;have hdig:kS s[k]=true:=by simp [kS];omega
     have hall':(s.data.toList.take (k+1)).all kS=true:=by rw [hlast,List.all_append,hall];simp [hdig]
     have hnext:nZ (s.data.toList.take (k+1))=nX (nZ (s.data.toList.take k)) ((s[k].toNat:Int) - 48):=by rw [hlast,Du]
     by_cases hab:(nZ (s.data.toList.take k)).2=true∨(4611686018427387903 - ((s[k].toNat:Int) - 48)) / 10<(nZ (s.data.toList.take k)).1
     ·have hst:nX (nZ (s.data.toList.take k)) ((s[k].toNat:Int) - 48)=((nZ (s.data.toList.take k)).1,true):=by unfold nX;rw [if_pos hab]
      have R:Hid (∀ wx,wr.setCell ⟨w.heap.size+1,0,none⟩ (.bool true)=wx→rE w (nZ (s.data.toList.take (k+1))).1 (nZ (s.data.toList.take (k+1))).2 wx):=by
       rintro wx rfl;rw [hnext,hst];exact GI hkept
      have Hout:Hid (wD (nZ (s.data.toList.take (k+1)))=(0,10)):=by
       show wD (nZ (s.data.toList.take (k+1)))=(0,10)
       rw [hnext,hst];rfl
      have Hab:Hid ((nZ (s.data.toList.take k)).2=true∨(4611686018427387903 - ((s[k].toNat:Int) - 48)) / 10<(nZ (s.data.toList.take k)).1):=hab;have Hk:Hid (rE w (nZ (s.data.toList.take k)).1 (nZ (s.data.toList.take k)).2 wr):=hkept;have Hall:Hid ((s.data.toList.take (k+1)).all kS=true):=hall';clear hlast hget hnext hst hall hall' hab hkept hb hdig;go_wp2_with fail;refine (GG _ _ _ _ _ _ Hk.out.cn Hk.out.ca Hk.out.fa (by omega) (by omega) Hab.out).mono ?_;rintro e w1 ⟨rfl,hw⟩;have R1:Hid (rE w (nZ (s.data.toList.take (k+1))).1 (nZ (s.data.toList.take (k+1))).2 w1):=R.out w1 hw;clear R hw Hab Hk;go_wp2;go_roundw
      case rel=>exact⟨k+1,by omega,by go_num,by rw [Hout.out],by rw [Hout.out],Hall.out,R1.out⟩
      case measure=>simp [intOf];omega
     ·have hb2:(nZ (s.data.toList.take k)).2=false:=by
       cases hx:(nZ (s.data.toList.take k)).2 with
       | false=>rfl
       | true=>exact absurd (Or.inl hx) hab
      have hle:(nZ (s.data.toList.take k)).1≤(4611686018427387903 - ((s[k].toNat:Int) - 48)) / 10:=by
       rw [hb2] at hab;simp at hab;omega
      have hst:nX (nZ (s.data.toList.take k)) ((s[k].toNat:Int) - 48)=(10*(nZ (s.data.toList.take k)).1+((s[k].toNat:Int) - 48),false):=by unfold nX;rw [if_neg hab]
      have R:Hid (∀ wx,wr.setCell ⟨w.heap.size,0,none⟩ (.int .i64 (10*(nZ (s.data.toList.take k)).1+((s[k].toNat:Int) - 48)))=wx→rE w (nZ (s.data.toList.take (k+1))).1 (nZ (s.data.toList.take (k+1))).2 wx):=by
       rintro wx rfl;rw [hnext,hst];rw [hb2] at hkept;exact KN hkept _
      have Hout:Hid (wD (nZ (s.data.toList.take (k+1)))=(10*(nZ (s.data.toList.take k)).1+((s[k].toNat:Int) - 48),0)):=by
       show wD (nZ (s.data.toList.take (k+1)))=(10*(nZ (s.data.toList.take k)).1+((s[k].toNat:Int) - 48),0)
       rw [hnext,hst];rfl
      have Hk:Hid (rE w (nZ (s.data.toList.take k)).1 false wr):=by rw [hb2] at hkept;exact hkept
      have Hle:Hid ((nZ (s.data.toList.take k)).1≤(4611686018427387903 - ((s[k].toNat:Int) - 48)) / 10):=hle;have Hb:Hid (0≤(nZ (s.data.toList.take k)).1):=hb.1;have Hall:Hid ((s.data.toList.take (k+1)).all kS=true):=hall';clear hlast hget hnext hst hall hall' hab hkept hb hdig hb2 hle;go_wp2_with fail;refine (KM _ _ _ _ _ Hk.out.cn Hk.out.ca Hk.out.fn (by omega) (by omega) Hb.out Hle.out).mono ?_;rintro e w1 ⟨rfl,hw⟩;have R1:Hid (rE w (nZ (s.data.toList.take (k+1))).1 (nZ (s.data.toList.take (k+1))).2 w1):=R.out w1 hw;clear R hw Hk Hle Hb;go_wp2;go_roundw
      case rel=>exact⟨k+1,by omega,by go_num,by rw [Hout.out],by rw [Hout.out],Hall.out,R1.out⟩
      case measure=>simp [intOf];omega
   ·have hke:s.data.toList.length=k:=by simp;omega
    have hfull:fA s.data.toList=wD (nZ (s.data.toList.take k)):=by
     rw [← hke,List.take_length];refine uT ?_ ?_
     ·intro h;rw [h] at hke;simp at hke;omega
     ·rw [← hke,List.take_length] at hall;exact hall
    have Hfull:Hid (fA s.data.toList=wD (nZ (s.data.toList.take k))):=hfull;have Hgr:Hid (Below w.heap.size w wr):=hkept.gr;clear hfull hke hall hkept;go_wp2;go_ret2;exact⟨by rw [Hfull.out];rfl,Hgr.out⟩
end Go.Proofs.YtdnnmjhfidimcaaGreatDoor
