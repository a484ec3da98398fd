/- Keys. The document's grammar as plain functions over tokens. -/
import Derived.Test.YtdnnmjhfidimcaaGreatDoorJoint1
import Derived.Test.YtdnnmjhfidimcaaGreatDoorProg
import Derived.Test.YtdnnmjhfidimcaaGreatDoorJoint2
import Derived.Lib.Strings
import Derived.BigQuiet
import Derived.WalkSmall
import Derived.Test.YtdnnmjhfidimcaaGreatDoorJoint3
namespace Go.Proofs.YtdnnmjhfidimcaaGreatDoor
set_option maxHeartbeats 1600000
open Go.RowKit
theorem jM {s:ByteArray} {l:List UInt8} (h:(s.toList==l)=true):s.data.toList=l:=by
 rw [beq_iff_eq,Lib.toList_data] at h;exact h
theorem jN {s:ByteArray} {l:List UInt8} (h:(s.toList==l)=false):s.data.toList≠l:=by
 rw [beq_eq_false_iff_ne,Lib.toList_data] at h;exact h
theorem pA (s:ByteArray) (w:World) :
  Calls Tryz.prog 126 #[.string s] w fun e w'=>e=.returned (.bool (jG s.data.toList))∧w=w':=by
 cases h0:(s.toList==([99,111,117,110,116]:List UInt8)) with
 | true=>
  have H:=aA (show jG s.data.toList=true by rw [jM (l:=[99,111,117,110,116]) h0];rfl);go_enter Tryz.func126,Tryz.ntmps126;go_wp2;go_ret;exact⟨by rw [H.out];rfl,rfl⟩
 | false=>
 cases h1:(s.toList==([100,101,108,101,116,101]:List UInt8)) with
 | true=>
  have H:=aA (show jG s.data.toList=true by rw [jM (l:=[100,101,108,101,116,101]) h1];rfl);go_enter Tryz.func126,Tryz.ntmps126;go_wp2;go_ret;exact⟨by rw [H.out];rfl,rfl⟩
 | false=>
 cases h2:(s.toList==([101,108,115,101]:List UInt8)) with
 | true=>
  have H:=aA (show jG s.data.toList=true by rw [jM (l:=[101,108,115,101]) h2];rfl);go_enter Tryz.func126,Tryz.ntmps126;go_wp2;go_ret;exact⟨by rw [H.out];rfl,rfl⟩
 | false=>
 cases h3:(s.toList==([102,97,108,115,101]:List UInt8)) with
 | true=>
  have H:=aA (show jG s.data.toList=true by rw [jM (l:=[102,97,108,115,101]) h3];rfl);go_enter Tryz.func126,Tryz.ntmps126;go_wp2;go_ret;exact⟨by rw [H.out];rfl,rfl⟩
 | false=>
 cases h4:(s.toList==([102,110]:List UInt8)) with
 | true=>
  have H:=aA (show jG s.data.toList=true by rw [jM (l:=[102,110]) h4];rfl);go_enter Tryz.func126,Tryz.ntmps126;go_wp2;go_ret;exact⟨by rw [H.out];rfl,rfl⟩
 | false=>
 cases h5:(s.toList==([104,97,115]:List UInt8)) with
 | true=>
  have H:=aA (show jG s.data.toList=true by rw [jM (l:=[104,97,115]) h5];rfl);go_enter Tryz.func126,Tryz.ntmps126;go_wp2;go_ret;exact⟨by rw [H.out];rfl,rfl⟩
 | false=>
 cases h6:(s.toList==([105,102]:List UInt8)) with
 | true=>
  have H:=aA (show jG s.data.toList=true by rw [jM (l:=[105,102]) h6];rfl);go_enter Tryz.func126,Tryz.ntmps126;go_wp2;go_ret;exact⟨by rw [H.out];rfl,rfl⟩
 | false=>
 cases h7:(s.toList==([107,101,121]:List UInt8)) with
 | true=>
  have H:=aA (show jG s.data.toList=true by rw [jM (l:=[107,101,121]) h7];rfl);go_enter Tryz.func126,Tryz.ntmps126;go_wp2;go_ret;exact⟨by rw [H.out];rfl,rfl⟩
 | false=>
 cases h8:(s.toList==([108,101,110]:List UInt8)) with
 | true=>
  have H:=aA (show jG s.data.toList=true by rw [jM (l:=[108,101,110]) h8];rfl);go_enter Tryz.func126,Tryz.ntmps126;go_wp2;go_ret;exact⟨by rw [H.out];rfl,rfl⟩
 | false=>
 cases h9:(s.toList==([108,101,116]:List UInt8)) with
 | true=>
  have H:=aA (show jG s.data.toList=true by rw [jM (l:=[108,101,116]) h9];rfl);go_enter Tryz.func126,Tryz.ntmps126;go_wp2;go_ret;exact⟨by rw [H.out];rfl,rfl⟩
 | false=>
 cases h10:(s.toList==([110,117,108,108]:List UInt8)) with
 | true=>
  have H:=aA (show jG s.data.toList=true by rw [jM (l:=[110,117,108,108]) h10];rfl);go_enter Tryz.func126,Tryz.ntmps126;go_wp2;go_ret;exact⟨by rw [H.out];rfl,rfl⟩
 | false=>
 cases h11:(s.toList==([112,114,105,110,116]:List UInt8)) with
 | true=>
  have H:=aA (show jG s.data.toList=true by rw [jM (l:=[112,114,105,110,116]) h11];rfl);go_enter Tryz.func126,Tryz.ntmps126;go_wp2;go_ret;exact⟨by rw [H.out];rfl,rfl⟩
 | false=>
 cases h12:(s.toList==([112,114,111,116,111]:List UInt8)) with
 | true=>
  have H:=aA (show jG s.data.toList=true by rw [jM (l:=[112,114,111,116,111]) h12];rfl);go_enter Tryz.func126,Tryz.ntmps126;go_wp2;go_ret;exact⟨by rw [H.out];rfl,rfl⟩
 | false=>
 cases h13:(s.toList==([114,101,116,117,114,110]:List UInt8)) with
 | true=>
  have H:=aA (show jG s.data.toList=true by rw [jM (l:=[114,101,116,117,114,110]) h13];rfl);go_enter Tryz.func126,Tryz.ntmps126;go_wp2;go_ret;exact⟨by rw [H.out];rfl,rfl⟩
 | false=>
 cases h14:(s.toList==([115,101,116,112,114,111,116,111]:List UInt8)) with
 | true=>
  have H:=aA (show jG s.data.toList=true by rw [jM (l:=[115,101,116,112,114,111,116,111]) h14];rfl);go_enter Tryz.func126,Tryz.ntmps126;go_wp2;go_ret;exact⟨by rw [H.out];rfl,rfl⟩
 | false=>
 cases h15:(s.toList==([115,116,114]:List UInt8)) with
 | true=>
  have H:=aA (show jG s.data.toList=true by rw [jM (l:=[115,116,114]) h15];rfl);go_enter Tryz.func126,Tryz.ntmps126;go_wp2;go_ret;exact⟨by rw [H.out];rfl,rfl⟩
 | false=>
 cases h16:(s.toList==([116,104,105,115]:List UInt8)) with
 | true=>
  have H:=aA (show jG s.data.toList=true by rw [jM (l:=[116,104,105,115]) h16];rfl);go_enter Tryz.func126,Tryz.ntmps126;go_wp2;go_ret;exact⟨by rw [H.out];rfl,rfl⟩
 | false=>
 cases h17:(s.toList==([116,114,117,101]:List UInt8)) with
 | true=>
  have H:=aA (show jG s.data.toList=true by rw [jM (l:=[116,114,117,101]) h17];rfl);go_enter Tryz.func126,Tryz.ntmps126;go_wp2;go_ret;exact⟨by rw [H.out];rfl,rfl⟩
 | false=>
 cases h18:(s.toList==([119,104,105,108,101]:List UInt8)) with
 | true=>
  have H:=aA (show jG s.data.toList=true by rw [jM (l:=[119,104,105,108,101]) h18];rfl);go_enter Tryz.func126,Tryz.ntmps126;go_wp2;go_ret;exact⟨by rw [H.out];rfl,rfl⟩
 | false=>
 have H:=aA (show jG s.data.toList=false by
  simp only [jG,keyL,List.contains_cons,List.contains_nil,Bool.or_eq_false_iff,beq_eq_false_iff_ne,and_true];exact⟨jN (l:=[99,111,117,110,116]) h0,jN (l:=[100,101,108,101,116,101]) h1,jN (l:=[101,108,115,101]) h2,jN (l:=[102,97,108,115,101]) h3,jN (l:=[102,110]) h4,jN (l:=[104,97,115]) h5,jN (l:=[105,102]) h6,jN (l:=[107,101,121]) h7,jN (l:=[108,101,110]) h8,jN (l:=[108,101,116]) h9,jN (l:=[110,117,108,108]) h10,jN (l:=[112,114,105,110,116]) h11,jN (l:=[112,114,111,116,111]) h12,jN (l:=[114,101,116,117,114,110]) h13,jN (l:=[115,101,116,112,114,111,116,111]) h14,jN (l:=[115,116,114]) h15,jN (l:=[116,104,105,115]) h16,jN (l:=[116,114,117,101]) h17,jN (l:=[119,104,105,108,101]) h18⟩)
 go_enter Tryz.func126,Tryz.ntmps126;go_wp2;go_ret;exact⟨by rw [H.out];rfl,rfl⟩
def iZ (g:Nat) (L:List (List UInt8)) (w:World):Prop:=∀ (i:Nat) (h:i<L.length),w.cell? ⟨g,i,none⟩=some (.string ⟨(L[i]).toArray⟩)
inductive PR where
 | ok (t:Nd) (b:Bool) (l:List Tok)
 | bad (l:List Tok)
inductive PL where
 | ok (ns:List ByteArray) (ts:List Nd) (l:List Tok)
 | bad (l:List Tok)
def PR.bind (x:PR) (k:Nd→Bool→List Tok→PR):PR:=match x with | .ok t b l=>k t b l | .bad l=>.bad l
def PR.bindL (x:PR) (k:Nd→Bool→List Tok→PL):PL:=match x with | .ok t b l=>k t b l | .bad l=>.bad l
def PL.bind (x:PL) (k:List ByteArray→List Nd→List Tok→PR):PR:=match x with | .ok ns ts l=>k ns ts l | .bad l=>.bad l
theorem PR.bind_ok (t:Nd) (b:Bool) (l:List Tok) (k:Nd→Bool→List Tok→PR):(PR.ok t b l).bind k=k t b l:=rfl
theorem PR.bind_bad (l:List Tok) (k:Nd→Bool→List Tok→PR):(PR.bad l).bind k=.bad l:=rfl
theorem PR.bindL_ok (t:Nd) (b:Bool) (l:List Tok) (k:Nd→Bool→List Tok→PL):(PR.ok t b l).bindL k=k t b l:=rfl
theorem PR.bindL_bad (l:List Tok) (k:Nd→Bool→List Tok→PL):(PR.bad l).bindL k=.bad l:=rfl
theorem PL.bind_ok (ns:List ByteArray) (ts:List Nd) (l:List Tok) (k:List ByteArray→List Nd→List Tok→PR):(PL.ok ns ts l).bind k=k ns ts l:=rfl
theorem PL.bind_bad (l:List Tok) (k:List ByteArray→List Nd→List Tok→PR):(PL.bad l).bind k=.bad l:=rfl
def bz:ByteArray:=⟨#[]⟩
def hJ (k:Int) (ks:List Nd):Nd:=.mk k 0 0 bz [] ks 0
def gK (k o:Int) (ks:List Nd):Nd:=.mk k o 0 bz [] ks 0
def tN (k:Int) (s:ByteArray) (ks:List Nd):Nd:=.mk k 0 0 s [] ks 0
def cur (l:List Tok):Tok:=l.headD Tok.zero
def gH (t:Tok) (x:List UInt8):Bool:=(t.kind==2||t.kind==5)&&t.text.data.toList==x
def bZ (l:List Tok) (x:List UInt8):Bool:=gH (cur l) x
def qC (key:Bool) (l:List Tok):Bool:=(cur l).kind==1||(key&&(cur l).kind==2)
def must (x:List UInt8) (l:List Tok) (k:List Tok→PR):PR:=if bZ l x then k l.tail else .bad l
def mustL (x:List UInt8) (l:List Tok) (k:List Tok→PL):PL:=if bZ l x then k l.tail else .bad l
def kF (key:Bool) (l:List Tok) (k:ByteArray→List Tok→PR):PR:=if qC key l then k (cur l).text l.tail else .bad l
def wordL (key:Bool) (l:List Tok) (k:ByteArray→List Tok→PL):PL:=if qC key l then k (cur l).text l.tail else .bad l
def zD (r:Nat):List (List UInt8×Int×Int):=
 match r with
 | 1=>[([124,124],12,0)]
 | 2=>[([38,38],11,0)]
 | 3=>[([61,61],10,10),([33,61],10,11)]
 | 4=>[([60],10,6),([60,61],10,7),([62],10,8),([62,61],10,9)]
 | 5=>[([43],10,1),([45],10,2)]
 | 6=>[([42],10,3),([47],10,4),([37],10,5)]
 | _=>[]
def pC:List (List UInt8×Int×Int)→List Tok→Option (Int×Int)
 | [],_=>none
 | (x,k,o)::r,l=>if bZ l x then some (k,o) else pC r l
def lP (r:Nat) (l:List Tok):Option (Int×Int):=pC (zD r) l
def oK:List Int→List Tok→Option Int
 | [],_=>none
 | o::r,l=>if bZ l (builtT o).1 then some o else oK r l
def nS (l:List Tok):Option Int:=oK [1,2,3,4,5,6,7] l
def becomeN (e v:Nd):Nd:=
 if e.kind=13 then tN 23 e.str (e.kids++[v]) else if e.kind=14 then hJ 24 (e.kids++[v]) else .mk 22 0 0 e.str [] (e.kids++[v]) e.pl
def tX:Nat→List ByteArray→List Tok→PL
 | 0,_,l=>.bad l
 | f+1,ns,l=>wordL false l fun s l=>if f≠0∧bZ l [44]=true then tX f (ns++[s]) l.tail else mustL [41] l fun l=>.ok (ns++[s]) [] l
def rC (l:List Tok):PL:=if bZ l [41] then .ok [] [] l.tail else tX 6 [] l
mutual
def aS:Nat→Nat→List Tok→PR
 | 0,_,l=>.bad l
 | f+1,r,l=>
  if 7≤r then
   (if bZ l [45] then (aS f 7 l.tail).bind fun e _ l=>.ok (gK 9 1 [e]) false l
   else if bZ l [33] then (aS f 7 l.tail).bind fun e _ l=>.ok (gK 9 2 [e]) false l
   else kG f l)
  else (aS f (r+1) l).bind fun e b l=>gI f r e b l
def gI:Nat→Nat→Nd→Bool→List Tok→PR
 | 0,_,_,_,l=>.bad l
 | f+1,r,e,b,l=>
  match lP r l with
  | none=>.ok e b l
  | some (k,o)=>(aS f (r+1) l.tail).bind fun e' _ l=>gI f r (gK k o [e,e']) false l
def kG:Nat→List Tok→PR
 | 0,l=>.bad l
 | f+1,l=>(hH f l).bind fun e b l=>fB f e b l
def fB:Nat→Nd→Bool→List Tok→PR
 | 0,_,_,l=>.bad l
 | f+1,e,b,l=>
  if bZ l [46] then
   kF true l.tail fun s l=>
    if bZ l [40] then (jB f [e] l.tail).bind fun _ ks l=>fB f (tN 16 s ks) false l
    else fB f (tN 13 s [e]) true l
  else if bZ l [91] then
   (aS f 1 l.tail).bind fun i _ l=>must [93] l fun l=>fB f (hJ 14 [e,i]) true l
  else if bZ l [40] then (jB f [e] l.tail).bind fun _ ks l=>fB f (hJ 15 ks) false l
  else .ok e b l
def jB:Nat→List Nd→List Tok→PL
 | 0,_,l=>.bad l
 | f+1,ks,l=>
  if bZ l [41] then .ok [] ks l.tail
  else (aS f 1 l).bindL fun e _ l=>iB f (ks++[e]) l
def iB:Nat→List Nd→List Tok→PL
 | 0,_,l=>.bad l
 | f+1,ks,l=>
  if ks.length<7∧bZ l [44]=true then (aS f 1 l.tail).bindL fun e _ l=>iB f (ks++[e]) l
  else mustL [41] l fun l=>.ok [] ks l
def hH:Nat→List Tok→PR
 | 0,l=>.bad l
 | f+1,l=>
  if (cur l).kind=3 then .ok (.mk 3 0 (cur l).num bz [] [] 0) false l.tail
  else if (cur l).kind=4 then .ok (tN 4 (cur l).text []) false l.tail
  else if (cur l).kind=1 then .ok (.mk 5 0 0 (cur l).text [] [] (cur l).pl) true l.tail
  else if bZ l [110,117,108,108] then .ok (hJ 1 []) false l.tail
  else if bZ l [116,114,117,101] then .ok (.mk 2 0 1 bz [] [] 0) false l.tail
  else if bZ l [102,97,108,115,101] then .ok (hJ 2 []) false l.tail
  else if bZ l [116,104,105,115] then .ok (hJ 6 []) false l.tail
  else if bZ l [40] then (aS f 1 l.tail).bind fun e _ l=>must [41] l fun l=>.ok e false l
  else if bZ l [123] then (tO f l.tail).bind fun ns ks l=>.ok (.mk 7 0 0 bz ns ks 0) false l
  else if bZ l [102,110] then
   must [40] l.tail fun l'=>(rC l').bind fun ns _ l'=>(dY f l').bind fun b _ l'=>.ok (.mk 8 0 0 bz ns b.kids (cur l).pl) false l'
  else match nS l with
   | none=>.bad l
   | some o=>must [40] l.tail fun l=>(aS f 1 l).bind fun e _ l=>
     if (builtT o).2=2 then must [44] l fun l=>(aS f 1 l).bind fun e' _ l=>must [41] l fun l=>.ok (gK 17 o [e,e']) false l
     else must [41] l fun l=>.ok (gK 17 o [e]) false l
def tO:Nat→List Tok→PL
 | 0,l=>.bad l
 | f+1,l=>if bZ l [125] then .ok [] [] l.tail else kH f [] [] l
def kH:Nat→List ByteArray→List Nd→List Tok→PL
 | 0,_,_,l=>.bad l
 | f+1,ns,ks,l=>wordL true l fun s l=>mustL [58] l fun l=>(aS f 1 l).bindL fun e _ l=>lW f (ns++[s]) (ks++[e]) l
def lW:Nat→List ByteArray→List Nd→List Tok→PL
 | 0,_,_,l=>.bad l
 | f+1,ns,ks,l=>
  if ks.length<40∧bZ l [44]=true then kH f ns ks l.tail
  else mustL [125] l fun l=>.ok ns ks l
def dY:Nat→List Tok→PR
 | 0,l=>.bad l
 | f+1,l=>must [123] l fun l=>(eG f [] l).bind fun _ ks l=>must [125] l fun l=>.ok (hJ 29 ks) false l
def eG:Nat→List Nd→List Tok→PL
 | 0,_,l=>.bad l
 | f+1,ks,l=>
  if ks.length<40∧bZ l [125]=false∧(cur l).kind≠6 then (kI f l).bindL fun e _ l=>eG f (ks++[e]) l
  else .ok [] ks l
def mS:Nat→List Tok→PR
 | 0,l=>.bad l
 | f+1,l=>must [40] l fun l=>(aS f 1 l).bind fun e _ l=>must [41] l fun l=>.ok e false l
def kI:Nat→List Tok→PR
 | 0,l=>.bad l
 | f+1,l=>
  if bZ l [105,102] then (mS f l.tail).bind fun e _ l=>(dY f l).bind fun y _ l=>
   if bZ l [101,108,115,101] then (dY f l.tail).bind fun z _ l=>.ok (hJ 28 [e,y,z]) false l else .ok (hJ 28 [e,y,hJ 29 []]) false l
  else if bZ l [119,104,105,108,101] then (mS f l.tail).bind fun e _ l=>(dY f l).bind fun y _ l=>.ok (hJ 30 [e,y]) false l
  else (iK f l).bind fun e _ l=>must [59] l fun l=>.ok e false l
def iK:Nat→List Tok→PR
 | 0,l=>.bad l
 | f+1,l=>
  if bZ l [108,101,116] then kF false l.tail fun s l'=>must [61] l' fun l'=>(aS f 1 l').bind fun e _ l'=>.ok (.mk 21 0 0 s [] [e] (cur l.tail).pl) false l'
  else if bZ l [112,114,105,110,116] then (aS f 1 l.tail).bind fun e _ l=>.ok (hJ 27 [e]) false l
  else if bZ l [114,101,116,117,114,110] then (aS f 1 l.tail).bind fun e _ l=>.ok (hJ 31 [e]) false l
  else if bZ l [100,101,108,101,116,101] then (kG f l.tail).bind fun e b l=>
   if b=true∧e.kind≠5 then .ok (if e.kind=13 then tN 25 e.str e.kids else hJ 26 e.kids) false l else .bad l
  else (aS f 1 l).bind fun e b l=>
   if b=true∧bZ l [61]=true then (aS f 1 l.tail).bind fun v _ l=>.ok (becomeN e v) false l else .ok (hJ 32 [e]) false l
end
def qF (f:Nat) (prog:Bool) (l:List Tok):PR:=
 (if prog then (eG f [] l).bind fun _ ks l=>.ok (hJ 29 ks) false l else aS f 1 l).bind fun e _ l=>if (cur l).kind=6 then .ok e false l else .bad l
end Go.Proofs.YtdnnmjhfidimcaaGreatDoor
