/- What num.Digits answers, for any number. What num.Read and the document's Read answer, for any text (NumRead, NumReads and RefNum's Read again, for cuts without num's other functions, ending in Below). -/
import Derived.Test.YtdnnmjhfidimcaaGreatDoorProg
import Derived.Test.YtdnnmjhfidimcaaGreatDoorJoint2
import Derived.Test.YtdnnmjhfidimcaaGreatDoorJoint1
import Derived.Lib.Strings
namespace Go.Proofs.YtdnnmjhfidimcaaGreatDoor
set_option maxRecDepth 100000
set_option maxHeartbeats 800000
open Go.RowKit
theorem OD {n:Int} (h:n<0) (h1:-9223372036854775808≤n):IntKind.u64.wrap (-IntKind.u64.wrap n)=(n.natAbs:Int):=by
 simp [IntKind.wrap,IntKind.signed,IntKind.bits];omega
theorem GD (n:Int) (h1:-9223372036854775808≤n) (h2:n≤9223372036854775807) (w:World) :
  Calls Tryz.prog 155 #[.int .i64 n] w fun e w'=>e=.returned (.int .u64 (n.natAbs:Int))∧w=w':=by
 by_cases h:n<0
 ·go_enter Tryz.func155,Tryz.ntmps155;go_wp2;go_ret;exact⟨by rw [OD h h1];rfl,rfl⟩
 ·go_enter Tryz.func155,Tryz.ntmps155;go_wp2;go_ret;exact⟨by rw [show (n.natAbs:Int)=n from by omega];rfl,rfl⟩
structure GE (w:World) (acc:List UInt8) (wr:World):Prop where
 cell:∀ i,i<20→∃ v,wr.cell? ⟨w.heap.size,i,none⟩=some (.int .u8 v)
 told:∀ j (hj:j<acc.length),wr.cell? ⟨w.heap.size,20 - acc.length+j,none⟩=some (.int .u8 (acc[j].toNat:Int))
 free:∀ i,i<20→wr.frozen? ⟨w.heap.size,i,none⟩=false
 low:w.heap.size<wr.heap.size
 gr:Below w.heap.size w wr
theorem GF (w:World) (c:Array Value) (hc:c=(List.replicate 20 (Value.int .u8 0)).toArray):GE w [] (w.alloc (Obj.cells c 133)) where
 cell:=fun i hi=>⟨0,by subst hc;rw [World.cell?_alloc_new,List.getElem?_toArray,List.getElem?_replicate,if_pos hi]⟩
 told:=fun j hj=>absurd hj (by simp)
 free:=fun i _=>by simp
 low:=by simp
 gr:=(Below.refl _ _).alloc (Nat.le_refl _) _
theorem BQ {w wr:World} {acc:List UInt8} (h:GE w acc wr) (hl:acc.length<20) (b:UInt8) (at':Nat) (hat:at'=19 - acc.length) (v:Int) (hv:v=(b.toNat:Int)) :
  GE w (b::acc) (wr.setCell ⟨w.heap.size,at',none⟩ (.int .u8 v)) where
 cell:=fun i hi=>by
  by_cases h':i=at'
  ·subst h';obtain⟨u,hu⟩:=h.cell i hi;exact⟨v,World.cell?_setCell_same' _ _ _ (by rw [hu];rfl)⟩
  ·have hne:(⟨w.heap.size,at',none⟩:Addr)≠⟨w.heap.size,i,none⟩:=fun e=>h' (by injection e with _ e2;exact e2.symm)
   rw [World.cell?_setCell_other (h:=hne)];exact h.cell i hi
 told:=fun j hj=>by
  simp only [List.length_cons] at hj ⊢;match j,hj with
  | 0,_=>
   have e:20 - (acc.length+1)+0=at':=by omega
   rw [e];obtain⟨u,hu⟩:=h.cell at' (by omega);rw [World.cell?_setCell_same' _ _ _ (by rw [hu];rfl),hv];rfl
  | j+1,hj=>
   have e:20 - (acc.length+1)+(j+1)=20 - acc.length+j:=by omega
   have hne:(⟨w.heap.size,at',none⟩:Addr)≠⟨w.heap.size,20 - acc.length+j,none⟩:=fun e=>by injection e with _ e2;omega
   rw [e,World.cell?_setCell_other (h:=hne)];simpa using h.told j (by omega)
 free:=fun i hi=>by simp [h.free i hi]
 low:=by simpa [World.setCell] using h.low
 gr:=h.gr.setCell (Nat.le_refl _) _
theorem Am (B p:Nat) (i:Int) (hi:i=(p:Int)) (hp:p<20) (n:Nat) (hn:n=20 - p) (w:World) :
  (Instr.sliceAt 133 (.pointer (some ⟨B,0,none⟩)) (some (.int .i64 i)) (some (.int .i64 20)) (some (.int .i64 20))).run Tryz.prog w=.ok (.slice (some ⟨B,p,none⟩) n n) w:=by
 have hl:Tryz.prog.arrayLen 133=20:=by kernel_rfl
 have hu:Tryz.prog.underlying 133=some (.array (Tryz.prog.arrayLen 133) (Tryz.prog.elem 133)):=by kernel_rfl
 have hz:(sizeOf (Tryz.prog.elem 133)).run Tryz.prog w=.ok 1 w:=by kernel_rfl
 subst hi hn;rw [run_sliceAt_array_lhm w _ _ hu .i64 .i64 .i64 (p:Int) 20 20 (by omega) (by omega) (by omega) (by rw [hl];decide),hz];simp only [Result.andThen,slicedAt];rw [if_neg (by simp;omega)];simp [Addr.add];omega
theorem xO {w wr:World} {acc:List UInt8} (h:GE w acc wr) (c:Nat) :
  (convert 49 9 (.slice (some ⟨w.heap.size,20 - acc.length,none⟩) acc.length c)).run Tryz.prog wr=.ok (.string ⟨acc.toArray⟩) wr:=
 run_convert_bytes_back wr 49 9 5 ⟨w.heap.size,20 - acc.length,none⟩ c acc (by kernel_rfl) (by kernel_rfl) (by kernel_rfl)
  (fun j hj=>by
   have e:(⟨w.heap.size,20 - acc.length,none⟩:Addr).add j=⟨w.heap.size,20 - acc.length+j,none⟩:=by unfold Addr.add;split<;>simp_all
   rw [e];exact h.told j hj)
theorem vJ (n:Int) (h1:-9223372036854775808≤n) (h2:n≤9223372036854775807) (w:World) :
  Calls Tryz.prog 128 #[.int .i64 n] w fun e w'=>e=.returned (.string ⟨(digs n).toArray⟩)∧Below w.heap.size w w':=by
 have hm:n.natAbs≤9223372036854775808:=by omega
 go_enter Tryz.func128,Tryz.ntmps128;go_wp2_with (go_at_call 155;refine (GD _ h1 h2 _).mono ?_;rintro e w' ⟨rfl,rfl⟩)
 generalize hgm:n.natAbs=m at *
 have Hm:Hid (n.natAbs=m):=hgm;clear hgm;go_loopw [4,5] (fun at' rest wr=>∃ (j r:Nat) (acc:List UInt8),at'=.int .i64 (20 - (j:Int))∧rest=.int .u64 (r:Int)∧r≤9223372036854775808∧Fc m j r acc∧GE w acc wr) (fun at' _ _=>(intOf at').toNat)
 case atStart=>exact⟨0,m,[],by simp,rfl,hm,Fd (by omega),GF w _ rfl⟩
 case round=>
  obtain⟨j,r,acc,rfl,rfl,hrm,ht,hroom⟩:=hrel;have hlen:=ht.1;have hj19:=ht.2.1;by_cases hgo:0<r∨j=0
  ·have hj:=Ii ht hgo;have hstep:=Jv ht hgo;have R:Hid (∀ wx,wr.setCell ⟨w.heap.size,20 - j - 1,none⟩ (.int .u8 (48+(r:Int) % 10))=wx→GE w (UInt8.ofNat (48+r % 10)::acc) wx):=by
    rintro wx rfl;exact BQ hroom (by omega) _ _ (by omega) _ (by rw [wE];push_cast;rfl)
   obtain⟨u,hu⟩:=hroom.cell (20 - j - 1) (by omega);have hf:=hroom.free (20 - j - 1) (by omega);have Ht:Hid (Fc m (j+1) (r / 10) (UInt8.ofNat (48+r % 10)::acc)):=hstep;clear hstep hroom ht hlen;rcases Nat.eq_zero_or_pos r with hr0 | hr0
   ·have hj0:j=0:=by omega
    subst hr0 hj0;go_wp2;go_roundw
    case rel=>exact⟨0+1,0 / 10,_,by simp,by simp,by omega,Ht.out,R.out _ rfl⟩
    case measure=>simp [intOf]
   ·go_wp2;go_roundw
    case rel=>exact⟨j+1,r / 10,_,by go_num,by go_num,by omega,Ht.out,R.out _ rfl⟩
    case measure=>simp [intOf];omega
  ·have hr:r=0:=by omega
   have hj:j≠0:=by omega
   have Hacc:Hid (acc=yE 20 m):=LA ht hr hj;subst hr;by_cases hn:n<0
   ·have Hd:Hid (digs n=45::acc):=by
     show digs n=45::acc;unfold digs;rw [if_pos hn,Hacc.out,← Hm.out]
    have hroom':GE w (45::acc) (wr.setCell ⟨w.heap.size,20 - j - 1,none⟩ (.int .u8 45)):=BQ hroom (by omega) 45 _ (by omega) _ rfl;have hsl:=Am w.heap.size (20 - j - 1) (20 - (j:Int) - 1) (by omega) (by omega) (acc.length+1) (by omega);have hcv:=xO hroom' (acc.length+1);rw [show 20 - (45::acc).length=20 - j - 1 from by simp;omega,List.length_cons] at hcv;obtain⟨u,hu⟩:=hroom.cell (20 - j - 1) (by omega);have hf:=hroom.free (20 - j - 1) (by omega);have Hgr:Hid (Below w.heap.size w (wr.setCell ⟨w.heap.size,20 - j - 1,none⟩ (.int .u8 45))):=hroom'.gr;have hjj:((20 - (j:Int))==20)=false:=by rw [beq_eq_false_iff_ne];omega
    clear ht hroom hroom' hlen hgo Hm Hacc;go_wp2;go_ret;exact⟨by rw [Hd.out];rfl,Hgr.out⟩
   ·have Hd:Hid (digs n=acc):=by
     show digs n=acc;unfold digs;rw [if_neg hn,Hacc.out,← Hm.out]
    have hsl:=Am w.heap.size (20 - j) (20 - (j:Int)) (by omega) (by omega) acc.length (by omega);have hcv:=xO hroom acc.length;rw [show 20 - acc.length=20 - j from by omega] at hcv;have Hgr:Hid (Below w.heap.size w wr):=hroom.gr;have hjj:((20 - (j:Int))==20)=false:=by rw [beq_eq_false_iff_ne];omega
    clear ht hroom hlen hgo Hm Hacc;go_wp2;go_ret;exact⟨by rw [Hd.out];rfl,Hgr.out⟩
/-! the closure of num.reading -/
theorem GG (d n:Int) (pa pn:Nat) (w:World) (ab:Bool) (hn:w.cell? ⟨pn,0,none⟩=some (.int .i64 n)) (ha:w.cell? ⟨pa,0,none⟩=some (.bool ab))
  (fa:w.frozen? ⟨pa,0,none⟩=false) (d0:0≤d) (d9:d≤9) (h:ab=true∨(4611686018427387903 - d) / 10<n) :
  Calls Tryz.prog 168 #[.int .i64 d,.pointer (some ⟨pa,0,none⟩),.pointer (some ⟨pn,0,none⟩)] w fun e w'=>
   e=.returned (.tuple #[.int .i64 0,.int .i64 10])∧w.setCell ⟨pa,0,none⟩ (.bool true)=w':=by
 cases ab
 ·have h2:(4611686018427387903 - d) / 10<n:=by simpa using h
  clear h;go_enter Tryz.func168,Tryz.ntmps168;go_wp2;go_ret2;exact⟨rfl,rfl⟩
 ·clear h;go_enter Tryz.func168,Tryz.ntmps168;go_wp2;go_ret2;exact⟨rfl,rfl⟩
theorem KM (d n:Int) (pa pn:Nat) (w:World) (hn:w.cell? ⟨pn,0,none⟩=some (.int .i64 n)) (ha:w.cell? ⟨pa,0,none⟩=some (.bool false))
  (fn:w.frozen? ⟨pn,0,none⟩=false) (d0:0≤d) (d9:d≤9) (n0:0≤n) (h:n≤(4611686018427387903 - d) / 10) :
  Calls Tryz.prog 168 #[.int .i64 d,.pointer (some ⟨pa,0,none⟩),.pointer (some ⟨pn,0,none⟩)] w fun e w'=>
   e=.returned (.tuple #[.int .i64 (10*n+d),.int .i64 0])∧w.setCell ⟨pn,0,none⟩ (.int .i64 (10*n+d))=w':=by
 go_enter Tryz.func168,Tryz.ntmps168;go_wp2;go_ret2;exact⟨rfl,rfl⟩
theorem Bj (w:World) :
  Calls Tryz.prog 154 #[] w fun e w'=>
   e=.returned (.func (.func 168) #[] #[.pointer (some ⟨w.heap.size+1,0,none⟩),.pointer (some ⟨w.heap.size,0,none⟩)])∧
    (w.alloc (Obj.cells #[.int .i64 0] 3)).alloc (Obj.cells #[.bool false] 4)=w':=by
 have hmf:∀ (fn:Fn) (first cap:Array Value) (w:World),(Instr.makeFunc fn first cap).run Tryz.prog w=.ok (.func fn first cap) w:=fun _ _ _ _=>rfl
 go_enter Tryz.func154,Tryz.ntmps154;go_wp2;go_ret;exact⟨rfl,rfl⟩
structure rE (w:World) (n:Int) (ab:Bool) (wr:World):Prop where
 cn:wr.cell? ⟨w.heap.size,0,none⟩=some (.int .i64 n)
 ca:wr.cell? ⟨w.heap.size+1,0,none⟩=some (.bool ab)
 fn:wr.frozen? ⟨w.heap.size,0,none⟩=false
 fa:wr.frozen? ⟨w.heap.size+1,0,none⟩=false
 gr:Below w.heap.size w wr
theorem GH (w:World):rE w 0 false ((w.alloc (Obj.cells #[.int .i64 0] 3)).alloc (Obj.cells #[.bool false] 4)) where
 cn:=by simp
 ca:=by simp
 fn:=by simp
 fa:=by simp
 gr:=((Below.refl _ _).alloc (Nat.le_refl _) _).alloc (by simp) _
theorem GI {w wr:World} {n:Int} {ab:Bool} (h:rE w n ab wr):rE w n true (wr.setCell ⟨w.heap.size+1,0,none⟩ (.bool true)) where
 cn:=by rw [World.cell?_setCell_other (h:=by simp)];exact h.cn
 ca:=World.cell?_setCell_same' _ _ _ (by rw [h.ca];rfl)
 fn:=by simp [h.fn]
 fa:=by simp [h.fa]
 gr:=h.gr.setCell (by simp) _
theorem KN {w wr:World} {n:Int} {ab:Bool} (h:rE w n ab wr) (m:Int):rE w m ab (wr.setCell ⟨w.heap.size,0,none⟩ (.int .i64 m)) where
 cn:=World.cell?_setCell_same' _ _ _ (by rw [h.cn];rfl)
 ca:=by rw [World.cell?_setCell_other (h:=by simp)];exact h.ca
 fn:=by simp [h.fn]
 fa:=by simp [h.fa]
 gr:=h.gr.setCell (by simp) _
theorem Ao (s:ByteArray) (hs:s.size≤4611686018427387903) (w:World) :
  Calls Tryz.prog 127 #[.string s] w fun e w'=>
   e=.returned (.tuple #[.int .i64 (fA s.data.toList).1,.int .i64 (fA s.data.toList).2])∧Below w.heap.size w w':=by
 by_cases h0:s.size=0
 ·have he:s.data.toList=[]:=by
   have:s.data.toList.length=0:=by simpa using h0
   exact List.length_eq_zero_iff.1 this
  have he2:s.toList.isEmpty=true:=by
   rw [Lib.toList_data,he];rfl
  go_enter Tryz.func127,Tryz.ntmps127;go_wp2;go_ret2;exact⟨by rw [he];rfl,Below.refl _ _⟩
 ·have he2:s.toList.isEmpty=false:=by
   rw [Lib.toList_data];cases h:s.data.toList with
   | nil=>exact absurd (show s.size=0 from by
     have:s.data.toList.length=0:=by rw [h];rfl
     simpa using this) h0
   | cons=>rfl
  go_enter Tryz.func127,Tryz.ntmps127;go_wp2_with (go_at_call 154;refine (Bj _).mono ?_;rintro e w' ⟨rfl,rfl⟩)
  go_loopw [5,6,7] (fun n e i wr=>∃ k:Nat,k≤s.size∧i=.int .i64 k∧n=.int .i64 (wD (nZ (s.data.toList.take k))).1∧e=.int .i64 (wD (nZ (s.data.toList.take k))).2∧
    (s.data.toList.take k).all kS=true∧rE w (nZ (s.data.toList.take k)).1 (nZ (s.data.toList.take k)).2 wr) (fun _ _ i _=>s.size - (intOf i).toNat)
  case atStart=>exact⟨0,Nat.zero_le _,rfl,rfl,rfl,rfl,GH w⟩
  case round=>
   obtain⟨k,hk,rfl,rfl,rfl,hall,hkept⟩:=hrel;by_cases hkl:k<s.size
   ·have hbs:k<s.data.toList.length:=by simpa using hkl
    have hget:s.data.toList[k]=s[k]:=by rw [Array.getElem_toList];rfl
    have hlast:=AY _ k hbs;rw [hget] at hlast;rcases (show s[k].toNat<48∨57<s[k].toNat∨(48≤s[k].toNat∧s[k].toNat≤57) from by omega) with hl | hh | hd
    ·have hbad:fA s.data.toList=(0,11):=xA hbs (by rw [hget];simp [kS];omega);have Hbad:Hid (fA s.data.toList=(0,11)):=hbad;clear hbad hlast hget;go_wp2;go_ret2;exact⟨by rw [Hbad.out];rfl,hkept.gr⟩
    ·have hbad:fA s.data.toList=(0,11):=xA hbs (by rw [hget];simp [kS];omega);have Hbad:Hid (fA s.data.toList=(0,11)):=hbad;clear hbad hlast hget;go_wp2;go_ret2;exact⟨by rw [Hbad.out];rfl,hkept.gr⟩
    ·obtain⟨d0,d9⟩:=hd;have hb:=yT _ hall;have hdig:kS s[k]=true:=by simp [kS];omega
     have hall':(s.data.toList.take (k+1)).all kS=true:=by rw [hlast,List.all_append,hall];simp [hdig]
     have hnext:nZ (s.data.toList.take (k+1))=nX (nZ (s.data.toList.take k)) ((s[k].toNat:Int) - 48):=by rw [hlast,Du]
     by_cases hab:(nZ (s.data.toList.take k)).2=true∨(4611686018427387903 - ((s[k].toNat:Int) - 48)) / 10<(nZ (s.data.toList.take k)).1
     ·have hst:nX (nZ (s.data.toList.take k)) ((s[k].toNat:Int) - 48)=((nZ (s.data.toList.take k)).1,true):=by unfold nX;rw [if_pos hab]
      have R:Hid (∀ wx,wr.setCell ⟨w.heap.size+1,0,none⟩ (.bool true)=wx→rE w (nZ (s.data.toList.take (k+1))).1 (nZ (s.data.toList.take (k+1))).2 wx):=by
       rintro wx rfl;rw [hnext,hst];exact GI hkept
      have Hout:Hid (wD (nZ (s.data.toList.take (k+1)))=(0,10)):=by
       show wD (nZ (s.data.toList.take (k+1)))=(0,10)
       rw [hnext,hst];rfl
      have Hab:Hid ((nZ (s.data.toList.take k)).2=true∨(4611686018427387903 - ((s[k].toNat:Int) - 48)) / 10<(nZ (s.data.toList.take k)).1):=hab;have Hk:Hid (rE w (nZ (s.data.toList.take k)).1 (nZ (s.data.toList.take k)).2 wr):=hkept;have Hall:Hid ((s.data.toList.take (k+1)).all kS=true):=hall';clear hlast hget hnext hst hall hall' hab hkept hb hdig;go_wp2_with fail;refine (GG _ _ _ _ _ _ Hk.out.cn Hk.out.ca Hk.out.fa (by omega) (by omega) Hab.out).mono ?_;rintro e w1 ⟨rfl,hw⟩;have R1:Hid (rE w (nZ (s.data.toList.take (k+1))).1 (nZ (s.data.toList.take (k+1))).2 w1):=R.out w1 hw;clear R hw Hab Hk;go_wp2;go_roundw
      case rel=>exact⟨k+1,by omega,by go_num,by rw [Hout.out],by rw [Hout.out],Hall.out,R1.out⟩
      case measure=>simp [intOf];omega
     ·have hb2:(nZ (s.data.toList.take k)).2=false:=by
       cases hx:(nZ (s.data.toList.take k)).2 with
       | false=>rfl
       | true=>exact absurd (Or.inl hx) hab
      have hle:(nZ (s.data.toList.take k)).1≤(4611686018427387903 - ((s[k].toNat:Int) - 48)) / 10:=by
       rw [hb2] at hab;simp at hab;omega
      have hst:nX (nZ (s.data.toList.take k)) ((s[k].toNat:Int) - 48)=(10*(nZ (s.data.toList.take k)).1+((s[k].toNat:Int) - 48),false):=by unfold nX;rw [if_neg hab]
      have R:Hid (∀ wx,wr.setCell ⟨w.heap.size,0,none⟩ (.int .i64 (10*(nZ (s.data.toList.take k)).1+((s[k].toNat:Int) - 48)))=wx→rE w (nZ (s.data.toList.take (k+1))).1 (nZ (s.data.toList.take (k+1))).2 wx):=by
       rintro wx rfl;rw [hnext,hst];rw [hb2] at hkept;exact KN hkept _
      have Hout:Hid (wD (nZ (s.data.toList.take (k+1)))=(10*(nZ (s.data.toList.take k)).1+((s[k].toNat:Int) - 48),0)):=by
       show wD (nZ (s.data.toList.take (k+1)))=(10*(nZ (s.data.toList.take k)).1+((s[k].toNat:Int) - 48),0)
       rw [hnext,hst];rfl
      have Hk:Hid (rE w (nZ (s.data.toList.take k)).1 false wr):=by rw [hb2] at hkept;exact hkept
      have Hle:Hid ((nZ (s.data.toList.take k)).1≤(4611686018427387903 - ((s[k].toNat:Int) - 48)) / 10):=hle;have Hb:Hid (0≤(nZ (s.data.toList.take k)).1):=hb.1;have Hall:Hid ((s.data.toList.take (k+1)).all kS=true):=hall';clear hlast hget hnext hst hall hall' hab hkept hb hdig hb2 hle;go_wp2_with fail;refine (KM _ _ _ _ _ Hk.out.cn Hk.out.ca Hk.out.fn (by omega) (by omega) Hb.out Hle.out).mono ?_;rintro e w1 ⟨rfl,hw⟩;have R1:Hid (rE w (nZ (s.data.toList.take (k+1))).1 (nZ (s.data.toList.take (k+1))).2 w1):=R.out w1 hw;clear R hw Hk Hle Hb;go_wp2;go_roundw
      case rel=>exact⟨k+1,by omega,by go_num,by rw [Hout.out],by rw [Hout.out],Hall.out,R1.out⟩
      case measure=>simp [intOf];omega
   ·have hke:s.data.toList.length=k:=by simp;omega
    have hfull:fA s.data.toList=wD (nZ (s.data.toList.take k)):=by
     rw [← hke,List.take_length];refine uT ?_ ?_
     ·intro h;rw [h] at hke;simp at hke;omega
     ·rw [← hke,List.take_length] at hall;exact hall
    have Hfull:Hid (fA s.data.toList=wD (nZ (s.data.toList.take k))):=hfull;have Hgr:Hid (Below w.heap.size w wr):=hkept.gr;clear hfull hke hall hkept;go_wp2;go_ret2;exact⟨by rw [Hfull.out];rfl,Hgr.out⟩
end Go.Proofs.YtdnnmjhfidimcaaGreatDoor
