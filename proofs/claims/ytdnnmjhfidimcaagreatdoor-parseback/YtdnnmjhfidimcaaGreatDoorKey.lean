/- Keys. -/
import Derived.Test.YtdnnmjhfidimcaaGreatDoorJoint1
import Derived.Test.YtdnnmjhfidimcaaGreatDoorProg
import Derived.Lib.Strings
import Derived.BigQuiet
import Derived.WalkSmall
namespace Go.Proofs.YtdnnmjhfidimcaaGreatDoor
set_option maxHeartbeats 1600000
open Go.RowKit
theorem jY {s:ByteArray} {l:List UInt8} (h:(s.toList==l)=true):s.data.toList=l:=by
 rw [beq_iff_eq,Lib.toList_data] at h;exact h
theorem jZ {s:ByteArray} {l:List UInt8} (h:(s.toList==l)=false):s.data.toList≠l:=by
 rw [beq_eq_false_iff_ne,Lib.toList_data] at h;exact h
theorem Jz (s:ByteArray) (l:List UInt8):(l==s.toList)=(l==s.data.toList):=by rw [Lib.toList_data]
def RY (L:List (List UInt8)) (l:List UInt8):Bool:=L.contains l
theorem qB (s:ByteArray) (w:World) :
  Calls Tryz.prog 126 #[.string s] w fun e w'=>e=.returned (.bool (iW s.data.toList))∧w=w':=by
 cases h0:(s.toList==([99,111,117,110,116]:List UInt8)) with
 | true=>
  have H:=aA (show iW s.data.toList=true by rw [jY (l:=[99,111,117,110,116]) h0];rfl);go_enter Tryz.func126,Tryz.ntmps126;go_wp2;go_ret;exact⟨by rw [H.out];rfl,rfl⟩
 | false=>
 cases h1:(s.toList==([100,101,108,101,116,101]:List UInt8)) with
 | true=>
  have H:=aA (show iW s.data.toList=true by rw [jY (l:=[100,101,108,101,116,101]) h1];rfl);go_enter Tryz.func126,Tryz.ntmps126;go_wp2;go_ret;exact⟨by rw [H.out];rfl,rfl⟩
 | false=>
 cases h2:(s.toList==([101,108,115,101]:List UInt8)) with
 | true=>
  have H:=aA (show iW s.data.toList=true by rw [jY (l:=[101,108,115,101]) h2];rfl);go_enter Tryz.func126,Tryz.ntmps126;go_wp2;go_ret;exact⟨by rw [H.out];rfl,rfl⟩
 | false=>
 cases h3:(s.toList==([102,97,108,115,101]:List UInt8)) with
 | true=>
  have H:=aA (show iW s.data.toList=true by rw [jY (l:=[102,97,108,115,101]) h3];rfl);go_enter Tryz.func126,Tryz.ntmps126;go_wp2;go_ret;exact⟨by rw [H.out];rfl,rfl⟩
 | false=>
 cases h4:(s.toList==([102,110]:List UInt8)) with
 | true=>
  have H:=aA (show iW s.data.toList=true by rw [jY (l:=[102,110]) h4];rfl);go_enter Tryz.func126,Tryz.ntmps126;go_wp2;go_ret;exact⟨by rw [H.out];rfl,rfl⟩
 | false=>
 cases h5:(s.toList==([104,97,115]:List UInt8)) with
 | true=>
  have H:=aA (show iW s.data.toList=true by rw [jY (l:=[104,97,115]) h5];rfl);go_enter Tryz.func126,Tryz.ntmps126;go_wp2;go_ret;exact⟨by rw [H.out];rfl,rfl⟩
 | false=>
 cases h6:(s.toList==([105,102]:List UInt8)) with
 | true=>
  have H:=aA (show iW s.data.toList=true by rw [jY (l:=[105,102]) h6];rfl);go_enter Tryz.func126,Tryz.ntmps126;go_wp2;go_ret;exact⟨by rw [H.out];rfl,rfl⟩
 | false=>
 cases h7:(s.toList==([107,101,121]:List UInt8)) with
 | true=>
  have H:=aA (show iW s.data.toList=true by rw [jY (l:=[107,101,121]) h7];rfl);go_enter Tryz.func126,Tryz.ntmps126;go_wp2;go_ret;exact⟨by rw [H.out];rfl,rfl⟩
 | false=>
 cases h8:(s.toList==([108,101,110]:List UInt8)) with
 | true=>
  have H:=aA (show iW s.data.toList=true by rw [jY (l:=[108,101,110]) h8];rfl);go_enter Tryz.func126,Tryz.ntmps126;go_wp2;go_ret;exact⟨by rw [H.out];rfl,rfl⟩
 | false=>
 cases h9:(s.toList==([108,101,116]:List UInt8)) with
 | true=>
  have H:=aA (show iW s.data.toList=true by rw [jY (l:=[108,101,116]) h9];rfl);go_enter Tryz.func126,Tryz.ntmps126;go_wp2;go_ret;exact⟨by rw [H.out];rfl,rfl⟩
 | false=>
 cases h10:(s.toList==([110,117,108,108]:List UInt8)) with
 | true=>
  have H:=aA (show iW s.data.toList=true by rw [jY (l:=[110,117,108,108]) h10];rfl);go_enter Tryz.func126,Tryz.ntmps126;go_wp2;go_ret;exact⟨by rw [H.out];rfl,rfl⟩
 | false=>
 cases h11:(s.toList==([112,114,105,110,116]:List UInt8)) with
 | true=>
  have H:=aA (show iW s.data.toList=true by rw [jY (l:=[112,114,105,110,116]) h11];rfl);go_enter Tryz.func126,Tryz.ntmps126;go_wp2;go_ret;exact⟨by rw [H.out];rfl,rfl⟩
 | false=>
 cases h12:(s.toList==([112,114,111,116,111]:List UInt8)) with
 | true=>
  have H:=aA (show iW s.data.toList=true by rw [jY (l:=[112,114,111,116,111]) h12];rfl);go_enter Tryz.func126,Tryz.ntmps126;go_wp2;go_ret;exact⟨by rw [H.out];rfl,rfl⟩
 | false=>
 cases h13:(s.toList==([114,101,116,117,114,110]:List UInt8)) with
 | true=>
  have H:=aA (show iW s.data.toList=true by rw [jY (l:=[114,101,116,117,114,110]) h13];rfl);go_enter Tryz.func126,Tryz.ntmps126;go_wp2;go_ret;exact⟨by rw [H.out];rfl,rfl⟩
 | false=>
 cases h14:(s.toList==([115,101,116,112,114,111,116,111]:List UInt8)) with
 | true=>
  have H:=aA (show iW s.data.toList=true by rw [jY (l:=[115,101,116,112,114,111,116,111]) h14];rfl);go_enter Tryz.func126,Tryz.ntmps126;go_wp2;go_ret;exact⟨by rw [H.out];rfl,rfl⟩
 | false=>
 cases h15:(s.toList==([115,116,114]:List UInt8)) with
 | true=>
  have H:=aA (show iW s.data.toList=true by rw [jY (l:=[115,116,114]) h15];rfl);go_enter Tryz.func126,Tryz.ntmps126;go_wp2;go_ret;exact⟨by rw [H.out];rfl,rfl⟩
 | false=>
 cases h16:(s.toList==([116,104,105,115]:List UInt8)) with
 | true=>
  have H:=aA (show iW s.data.toList=true by rw [jY (l:=[116,104,105,115]) h16];rfl);go_enter Tryz.func126,Tryz.ntmps126;go_wp2;go_ret;exact⟨by rw [H.out];rfl,rfl⟩
 | false=>
 cases h17:(s.toList==([116,114,117,101]:List UInt8)) with
 | true=>
  have H:=aA (show iW s.data.toList=true by rw [jY (l:=[116,114,117,101]) h17];rfl);go_enter Tryz.func126,Tryz.ntmps126;go_wp2;go_ret;exact⟨by rw [H.out];rfl,rfl⟩
 | false=>
 cases h18:(s.toList==([119,104,105,108,101]:List UInt8)) with
 | true=>
  have H:=aA (show iW s.data.toList=true by rw [jY (l:=[119,104,105,108,101]) h18];rfl);go_enter Tryz.func126,Tryz.ntmps126;go_wp2;go_ret;exact⟨by rw [H.out];rfl,rfl⟩
 | false=>
 have H:=aA (show iW s.data.toList=false by
  simp only [iW,keyL,List.contains_cons,List.contains_nil,Bool.or_eq_false_iff,beq_eq_false_iff_ne,and_true];exact⟨jZ (l:=[99,111,117,110,116]) h0,jZ (l:=[100,101,108,101,116,101]) h1,jZ (l:=[101,108,115,101]) h2,jZ (l:=[102,97,108,115,101]) h3,jZ (l:=[102,110]) h4,jZ (l:=[104,97,115]) h5,jZ (l:=[105,102]) h6,jZ (l:=[107,101,121]) h7,jZ (l:=[108,101,110]) h8,jZ (l:=[108,101,116]) h9,jZ (l:=[110,117,108,108]) h10,jZ (l:=[112,114,105,110,116]) h11,jZ (l:=[112,114,111,116,111]) h12,jZ (l:=[114,101,116,117,114,110]) h13,jZ (l:=[115,101,116,112,114,111,116,111]) h14,jZ (l:=[115,116,114]) h15,jZ (l:=[116,104,105,115]) h16,jZ (l:=[116,114,117,101]) h17,jZ (l:=[119,104,105,108,101]) h18⟩)
 go_enter Tryz.func126,Tryz.ntmps126;go_wp2;go_ret;exact⟨by rw [H.out];rfl,rfl⟩
def iF (g:Nat) (L:List (List UInt8)) (w:World):Prop:=∀ (i:Nat) (h:i<L.length),w.cell? ⟨g,i,none⟩=some (.string ⟨(L[i]).toArray⟩)
def pB (L:List (List UInt8)):Array Value:=(L.map fun l=>Value.string ⟨l.toArray⟩).toArray
theorem CB (w:World) (L:List (List UInt8)) (t:TypeId):iF w.heap.size L (w.alloc (.cells (pB L) t)):=by
 intro i h;rw [World.cell?_alloc_new];simp [pB,h]
theorem Gr (w:World) :
  Calls Tryz.prog 78 #[] w fun e w'=>e=.returned (.slice (some ⟨w.heap.size,0,none⟩) 19 19)∧w.alloc (.cells (pB keyL) 9)=w':=by
 go_enter Tryz.func78,Tryz.ntmps78;go_wp2;go_ret;exact⟨rfl,rfl⟩
theorem KV (g n:Nat) (L:List (List UInt8)) (hn:L.length=n) (hl:n≤1000) (s:ByteArray) (w:World) (T:Hid (iF g L w)) :
  Calls Tryz.prog 77 #[.slice (some ⟨g,0,none⟩) n n,.string s] w fun e w'=>e=.returned (.bool (RY L s.data.toList))∧w=w':=by
 go_enter Tryz.func77,Tryz.ntmps77;go_wp2;go_loop [5] (fun i=>∃ j:Nat,j≤n∧i=.int .i64 j∧(∀ (k:Nat) (h:k<L.length),k<j→(L[k]==s.data.toList)=false)) (fun i=>n - (intOf i).toNat)
 case atStart=>exact⟨0,Nat.zero_le _,rfl,fun k _ h=>absurd h (Nat.not_lt_zero _)⟩
 case round=>
  obtain⟨j,hj,rfl,hno⟩:=hrel;by_cases hjl:j<n
  ·have hjL:j<L.length:=by omega
   have c:=T.out j hjL;cases hq:(L[j]==s.data.toList) with
   | true=>
    have H:=aA (show RY L s.data.toList=true by
     rw [RY,List.contains_iff_mem,← beq_iff_eq.1 hq];exact List.getElem_mem hjL)
    have hq2:=(Jz s L[j]).trans hq;clear hno hq;go_wp2;go_ret;exact⟨by rw [H.out];rfl,rfl⟩
   | false=>
    have H:=aA (show ∀ (k:Nat) (h:k<L.length),k<j+1→(L[k]==s.data.toList)=false from fun k h hk=>by
     rcases Nat.lt_or_ge k j with h1 | h1
     ·exact hno k h h1
     ·obtain rfl:k=j:=by omega
      exact hq)
    have hq2:=(Jz s L[j]).trans hq;clear hno hq;go_wp2;go_round
    case rel=>exact⟨j+1,by omega,by go_num,H.out⟩
    case measure=>simp [intOf];omega
  ·have H:=aA (show RY L s.data.toList=false by
    unfold RY;cases hc:L.contains s.data.toList with
    | false=>rfl
    | true=>
     obtain⟨k,h,e⟩:=List.getElem_of_mem (List.contains_iff_mem.1 hc);have:=hno k h (by omega);rw [e] at this;simp at this)
   clear hno;go_wp2;go_ret;exact⟨by rw [H.out];rfl,rfl⟩
theorem jL (s:ByteArray) (w:World) :
  Calls Tryz.prog 51 #[.string s] w fun e w'=>e=.returned (.bool (iW s.data.toList))∧Below w.heap.size w w':=by
 go_enter Tryz.func51,Tryz.ntmps51;go_wp2_with fail;refine (Gr _).mono ?_;rintro e w1 ⟨rfl,hw⟩;have T:=aA (hw▸CB w keyL 9);have B:=aA (hw▸(Below.refl w.heap.size w).alloc (Nat.le_refl _) (.cells (pB keyL) 9));clear hw;go_wp2_with fail;refine (KV w.heap.size 19 keyL rfl (by decide) s _ T).mono ?_;rintro e w2 ⟨rfl,rfl⟩;go_wp2;go_ret;exact⟨rfl,B.out⟩
end Go.Proofs.YtdnnmjhfidimcaaGreatDoor
