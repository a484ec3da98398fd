/- The document's signs. The longest sign that comes. What Parse and Expr tell, as plain functions. -/
import Derived.Test.YtdnnmjhfidimcaaGreatDoorJoint7
import Derived.Test.YtdnnmjhfidimcaaGreatDoorJoint4
import Derived.Deep.MidRow
import Derived.Test.YtdnnmjhfidimcaaGreatDoorJoint1
import Derived.Test.YtdnnmjhfidimcaaGreatDoorJoint2
namespace Go.Proofs.YtdnnmjhfidimcaaGreatDoor
set_option maxRecDepth 100000
open Go.RowKit
theorem CM:∀ (L:List (List UInt8)) (l:List UInt8) (j:Nat) (h:j<L.length),nY L[j] l=false→gB (L.drop j) l=gB (L.drop (j+1)) l:=by
 intro L l j h hp;rw [List.drop_eq_getElem_cons h];unfold nY at hp;simp [gB,hp]
theorem CN:∀ (L:List (List UInt8)) (l:List UInt8) (j:Nat) (h:j<L.length),nY L[j] l=true→gB (L.drop j) l=L[j]:=by
 intro L l j h hp;rw [List.drop_eq_getElem_cons h];unfold nY at hp;simp [gB,hp]
theorem KH {w:World} (h:iZ 0 sgnL w):w.rangeAt 0 0 (sgnL.map fun l=>Value.string ⟨l.toArray⟩):=by
 intro j v hv;rw [List.getElem?_map,Option.map_eq_some_iff] at hv;obtain⟨l,hl,rfl⟩:=hv;obtain⟨hj,rfl⟩:=List.getElem?_eq_some_iff.1 hl;simpa using h j hj
theorem OA (A:Array Value) (x:ByteArray) (j:Nat) (hj:j<25) (h:A[j]? = some (.string x)) (w:World) :
  (Instr.index 138 (.agg A) (.int .i64 (j:Int))).run Tryz.prog w=.ok (.string x) w:=by
 simp [go_sem,Instr.index,part,h,asIntOf];omega
theorem tT (s:ByteArray) (w:World) (SG:Hid (iZ 0 sgnL w)) :
  Calls Tryz.prog 130 #[.string s] w fun e w'=>e=.returned (.string ⟨(signL s.data.toList).toArray⟩)∧w=w':=by
 go_enter Tryz.func130,Tryz.ntmps130;go_wp2_with (refine wpList_load_mid rfl 138 _ rfl 0 0 rfl _ _ (KH SG.out) Tryz.underlying138 rfl (by kernel_rfl) ?_)
 generalize hA:(List.map (fun l=>Value.string ⟨l.toArray⟩) sgnL).toArray=A;have hAt:Hid (∀ (j:Nat) (h:j<sgnL.length),A[j]? = some (.string ⟨(sgnL[j]).toArray⟩)):=aA fun j h=>by rw [← hA];simp [h]
 have h25:sgnL.length=25:=rfl;clear hA;go_wp2;go_loop [6] (fun i=>∃ j:Nat,j≤25∧i=.int .i64 j∧signL s.data.toList=gB (sgnL.drop j) s.data.toList) (fun i=>25 - (intOf i).toNat)
 case atStart=>exact⟨0,by omega,rfl,rfl⟩
 case round=>
  obtain⟨j,hj,rfl,hf⟩:=hrel;by_cases hjl:j<25
  ·have hjL:j<sgnL.length:=by omega
   have c:=OA A _ j hjl (hAt.out j hjL) w;cases hp:nY sgnL[j] s.data.toList with
   | true=>
    have H:=aA (hf.trans (CN sgnL _ j hjL hp));have Hp:=aA hp;clear hp hf;generalize sgnL[j]=x at *
    go_wp2_with fail;refine (lH _ _ _).mono ?_;rintro e w1 ⟨rfl,rfl⟩;rw [Hp.out];go_wp2;go_ret;exact⟨by rw [H.out];rfl,rfl⟩
   | false=>
    have H:=aA (hf.trans (CM sgnL _ j hjL hp));have Hp:=aA hp;clear hp hf;generalize sgnL[j]=x at *
    go_wp2_with fail;refine (lH _ _ _).mono ?_;rintro e w1 ⟨rfl,rfl⟩;rw [Hp.out];go_wp2;go_round
    case rel=>exact⟨j+1,by omega,by go_num,H.out⟩
    case measure=>simp [intOf];omega
  ·have H:=aA (hf.trans (show gB (sgnL.drop j) s.data.toList=[] by rw [List.drop_of_length_le (by omega)];rfl));clear hf;go_wp2;go_ret;exact⟨by rw [H.out];rfl,rfl⟩
def ndZ:Nd:=.mk 0 0 0 bz [] [] 0
def iL (f:Nat) (prog:Bool) (s:ByteArray):Nd×Int×Int:=
 if (tokOut s).2.2≠0 then (ndZ,(tokOut s).2.1,(tokOut s).2.2)
 else match qF f prog (tokOut s).1 with
  | .bad l=>(ndZ,(cur l).pl,12)
  | .ok t _ _=>if 12<fF t then (ndZ,0,13) else (t,0,0)
end Go.Proofs.YtdnnmjhfidimcaaGreatDoor
