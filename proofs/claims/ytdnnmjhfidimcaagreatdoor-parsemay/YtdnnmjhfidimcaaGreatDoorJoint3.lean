/- Keys. The document's grammar as plain functions over tokens. -/
import Derived.Test.YtdnnmjhfidimcaaGreatDoorJoint1
import Derived.Test.YtdnnmjhfidimcaaGreatDoorProg
import Derived.Test.YtdnnmjhfidimcaaGreatDoorJoint2
import Derived.Lib.Strings
import Derived.BigQuiet
import Derived.WalkSmall
namespace Go.Proofs.YtdnnmjhfidimcaaGreatDoor
open Go.RowKit

theorem kze {s:ByteArray} {l:List UInt8} (h:(s.toList==l)=true):s.data.toList=l:=by
 rw [beq_iff_eq,Lib.toList_data] at h;exact h
theorem lze {s:ByteArray} {l:List UInt8} (h:(s.toList==l)=false):s.data.toList≠l:=by
 rw [beq_eq_false_iff_ne,Lib.toList_data] at h;exact h
set_option maxHeartbeats 1600000 in
theorem Rzg (s:ByteArray) (w:World) :
  Calls Tryz.prog 126 #[.string s] w fun e w'=>e=.returned (.bool (eze s.data.toList))∧w=w':=by
 cases h0:(s.toList==([99,111,117,110,116]:List UInt8)) with
 | true=>
  have H:=hid (show eze s.data.toList=true by rw [kze (l:=[99,111,117,110,116]) h0];rfl);go_enter Tryz.func126,Tryz.ntmps126;go_wp2;go_ret;exact⟨by rw [H.out];rfl,rfl⟩
 | false=>
 cases h1:(s.toList==([100,101,108,101,116,101]:List UInt8)) with
 | true=>
  have H:=hid (show eze s.data.toList=true by rw [kze (l:=[100,101,108,101,116,101]) h1];rfl);go_enter Tryz.func126,Tryz.ntmps126;go_wp2;go_ret;exact⟨by rw [H.out];rfl,rfl⟩
 | false=>
 cases h2:(s.toList==([101,108,115,101]:List UInt8)) with
 | true=>
  have H:=hid (show eze s.data.toList=true by rw [kze (l:=[101,108,115,101]) h2];rfl);go_enter Tryz.func126,Tryz.ntmps126;go_wp2;go_ret;exact⟨by rw [H.out];rfl,rfl⟩
 | false=>
 cases h3:(s.toList==([102,97,108,115,101]:List UInt8)) with
 | true=>
  have H:=hid (show eze s.data.toList=true by rw [kze (l:=[102,97,108,115,101]) h3];rfl);go_enter Tryz.func126,Tryz.ntmps126;go_wp2;go_ret;exact⟨by rw [H.out];rfl,rfl⟩
 | false=>
 cases h4:(s.toList==([102,110]:List UInt8)) with
 | true=>
  have H:=hid (show eze s.data.toList=true by rw [kze (l:=[102,110]) h4];rfl);go_enter Tryz.func126,Tryz.ntmps126;go_wp2;go_ret;exact⟨by rw [H.out];rfl,rfl⟩
 | false=>
 cases h5:(s.toList==([104,97,115]:List UInt8)) with
 | true=>
  have H:=hid (show eze s.data.toList=true by rw [kze (l:=[104,97,115]) h5];rfl);go_enter Tryz.func126,Tryz.ntmps126;go_wp2;go_ret;exact⟨by rw [H.out];rfl,rfl⟩
 | false=>
 cases h6:(s.toList==([105,102]:List UInt8)) with
 | true=>
  have H:=hid (show eze s.data.toList=true by rw [kze (l:=[105,102]) h6];rfl);go_enter Tryz.func126,Tryz.ntmps126;go_wp2;go_ret;exact⟨by rw [H.out];rfl,rfl⟩
 | false=>
 cases h7:(s.toList==([107,101,121]:List UInt8)) with
 | true=>
  have H:=hid (show eze s.data.toList=true by rw [kze (l:=[107,101,121]) h7];rfl);go_enter Tryz.func126,Tryz.ntmps126;go_wp2;go_ret;exact⟨by rw [H.out];rfl,rfl⟩
 | false=>
 cases h8:(s.toList==([108,101,110]:List UInt8)) with
 | true=>
  have H:=hid (show eze s.data.toList=true by rw [kze (l:=[108,101,110]) h8];rfl);go_enter Tryz.func126,Tryz.ntmps126;go_wp2;go_ret;exact⟨by rw [H.out];rfl,rfl⟩
 | false=>
 cases h9:(s.toList==([108,101,116]:List UInt8)) with
 | true=>
  have H:=hid (show eze s.data.toList=true by rw [kze (l:=[108,101,116]) h9];rfl);go_enter Tryz.func126,Tryz.ntmps126;go_wp2;go_ret;exact⟨by rw [H.out];rfl,rfl⟩
 | false=>
 cases h10:(s.toList==([110,117,108,108]:List UInt8)) with
 | true=>
  have H:=hid (show eze s.data.toList=true by rw [kze (l:=[110,117,108,108]) h10];rfl);go_enter Tryz.func126,Tryz.ntmps126;go_wp2;go_ret;exact⟨by rw [H.out];rfl,rfl⟩
 | false=>
 cases h11:(s.toList==([112,114,105,110,116]:List UInt8)) with
 | true=>
  have H:=hid (show eze s.data.toList=true by rw [kze (l:=[112,114,105,110,116]) h11];rfl);go_enter Tryz.func126,Tryz.ntmps126;go_wp2;go_ret;exact⟨by rw [H.out];rfl,rfl⟩
 | false=>
 cases h12:(s.toList==([112,114,111,116,111]:List UInt8)) with
 | true=>
  have H:=hid (show eze s.data.toList=true by rw [kze (l:=[112,114,111,116,111]) h12];rfl);go_enter Tryz.func126,Tryz.ntmps126;go_wp2;go_ret;exact⟨by rw [H.out];rfl,rfl⟩
 | false=>
 cases h13:(s.toList==([114,101,116,117,114,110]:List UInt8)) with
 | true=>
  have H:=hid (show eze s.data.toList=true by rw [kze (l:=[114,101,116,117,114,110]) h13];rfl);go_enter Tryz.func126,Tryz.ntmps126;go_wp2;go_ret;exact⟨by rw [H.out];rfl,rfl⟩
 | false=>
 cases h14:(s.toList==([115,101,116,112,114,111,116,111]:List UInt8)) with
 | true=>
  have H:=hid (show eze s.data.toList=true by rw [kze (l:=[115,101,116,112,114,111,116,111]) h14];rfl);go_enter Tryz.func126,Tryz.ntmps126;go_wp2;go_ret;exact⟨by rw [H.out];rfl,rfl⟩
 | false=>
 cases h15:(s.toList==([115,116,114]:List UInt8)) with
 | true=>
  have H:=hid (show eze s.data.toList=true by rw [kze (l:=[115,116,114]) h15];rfl);go_enter Tryz.func126,Tryz.ntmps126;go_wp2;go_ret;exact⟨by rw [H.out];rfl,rfl⟩
 | false=>
 cases h16:(s.toList==([116,104,105,115]:List UInt8)) with
 | true=>
  have H:=hid (show eze s.data.toList=true by rw [kze (l:=[116,104,105,115]) h16];rfl);go_enter Tryz.func126,Tryz.ntmps126;go_wp2;go_ret;exact⟨by rw [H.out];rfl,rfl⟩
 | false=>
 cases h17:(s.toList==([116,114,117,101]:List UInt8)) with
 | true=>
  have H:=hid (show eze s.data.toList=true by rw [kze (l:=[116,114,117,101]) h17];rfl);go_enter Tryz.func126,Tryz.ntmps126;go_wp2;go_ret;exact⟨by rw [H.out];rfl,rfl⟩
 | false=>
 cases h18:(s.toList==([119,104,105,108,101]:List UInt8)) with
 | true=>
  have H:=hid (show eze s.data.toList=true by rw [kze (l:=[119,104,105,108,101]) h18];rfl);go_enter Tryz.func126,Tryz.ntmps126;go_wp2;go_ret;exact⟨by rw [H.out];rfl,rfl⟩
 | false=>
 have H:=hid (show eze s.data.toList=false by
  simp only [eze,keyL,List.contains_cons,List.contains_nil,Bool.or_eq_false_iff,beq_eq_false_iff_ne,and_true];exact⟨lze (l:=[99,111,117,110,116]) h0,lze (l:=[100,101,108,101,116,101]) h1,lze (l:=[101,108,115,101]) h2,lze (l:=[102,97,108,115,101]) h3,lze (l:=[102,110]) h4,lze (l:=[104,97,115]) h5,lze (l:=[105,102]) h6,lze (l:=[107,101,121]) h7,lze (l:=[108,101,110]) h8,lze (l:=[108,101,116]) h9,lze (l:=[110,117,108,108]) h10,lze (l:=[112,114,105,110,116]) h11,lze (l:=[112,114,111,116,111]) h12,lze (l:=[114,101,116,117,114,110]) h13,lze (l:=[115,101,116,112,114,111,116,111]) h14,lze (l:=[115,116,114]) h15,lze (l:=[116,104,105,115]) h16,lze (l:=[116,114,117,101]) h17,lze (l:=[119,104,105,108,101]) h18⟩)
 go_enter Tryz.func126,Tryz.ntmps126;go_wp2;go_ret;exact⟨by rw [H.out];rfl,rfl⟩

def Xzd (g:Nat) (L:List (List UInt8)) (w:World):Prop:=∀ (i:Nat) (h:i<L.length),w.cell? ⟨g,i,none⟩=some (.string ⟨(L[i]).toArray⟩)
end Go.Proofs.YtdnnmjhfidimcaaGreatDoor

namespace Go.Proofs.YtdnnmjhfidimcaaGreatDoor
open Go.RowKit

inductive PR where
 | ok (t:Nd) (b:Bool) (l:List Tok)
 | bad (l:List Tok)
inductive PL where
 | ok (ns:List ByteArray) (ts:List Nd) (l:List Tok)
 | bad (l:List Tok)
def PR.bind (x:PR) (k:Nd→Bool→List Tok→PR):PR:=match x with | .ok t b l=>k t b l | .bad l=>.bad l
def PR.bindL (x:PR) (k:Nd→Bool→List Tok→PL):PL:=match x with | .ok t b l=>k t b l | .bad l=>.bad l
def PL.bind (x:PL) (k:List ByteArray→List Nd→List Tok→PR):PR:=match x with | .ok ns ts l=>k ns ts l | .bad l=>.bad l
theorem PR.bind_ok (t:Nd) (b:Bool) (l:List Tok) (k:Nd→Bool→List Tok→PR):(PR.ok t b l).bind k=k t b l:=rfl
theorem PR.bind_bad (l:List Tok) (k:Nd→Bool→List Tok→PR):(PR.bad l).bind k=.bad l:=rfl
theorem PR.bindL_ok (t:Nd) (b:Bool) (l:List Tok) (k:Nd→Bool→List Tok→PL):(PR.ok t b l).bindL k=k t b l:=rfl
theorem PR.bindL_bad (l:List Tok) (k:Nd→Bool→List Tok→PL):(PR.bad l).bindL k=.bad l:=rfl
theorem PL.bind_ok (ns:List ByteArray) (ts:List Nd) (l:List Tok) (k:List ByteArray→List Nd→List Tok→PR):(PL.ok ns ts l).bind k=k ns ts l:=rfl
theorem PL.bind_bad (l:List Tok) (k:List ByteArray→List Nd→List Tok→PR):(PL.bad l).bind k=.bad l:=rfl

def bz:ByteArray:=⟨#[]⟩
def ndK (k:Int) (ks:List Nd):Nd:=.mk k 0 0 bz [] ks 0
def ndO (k o:Int) (ks:List Nd):Nd:=.mk k o 0 bz [] ks 0
def ndS (k:Int) (s:ByteArray) (ks:List Nd):Nd:=.mk k 0 0 s [] ks 0

def cur (l:List Tok):Tok:=l.headD Tok.zero
def isT (t:Tok) (x:List UInt8):Bool:=(t.kind==2||t.kind==5)&&t.text.data.toList==x
def isH (l:List Tok) (x:List UInt8):Bool:=isT (cur l) x
def isW (key:Bool) (l:List Tok):Bool:=(cur l).kind==1||(key&&(cur l).kind==2)
def must (x:List UInt8) (l:List Tok) (k:List Tok→PR):PR:=if isH l x then k l.tail else .bad l
def mustL (x:List UInt8) (l:List Tok) (k:List Tok→PL):PL:=if isH l x then k l.tail else .bad l
def Bze (key:Bool) (l:List Tok) (k:ByteArray→List Tok→PR):PR:=if isW key l then k (cur l).text l.tail else .bad l
def wordL (key:Bool) (l:List Tok) (k:ByteArray→List Tok→PL):PL:=if isW key l then k (cur l).text l.tail else .bad l

def sgR (r:Nat):List (List UInt8×Int×Int):=
 match r with
 | 1=>[([124,124],12,0)]
 | 2=>[([38,38],11,0)]
 | 3=>[([61,61],10,10),([33,61],10,11)]
 | 4=>[([60],10,6),([60,61],10,7),([62],10,8),([62,61],10,9)]
 | 5=>[([43],10,1),([45],10,2)]
 | 6=>[([42],10,3),([47],10,4),([37],10,5)]
 | _=>[]
def Tzg:List (List UInt8×Int×Int)→List Tok→Option (Int×Int)
 | [],_=>none
 | (x,k,o)::r,l=>if isH l x then some (k,o) else Tzg r l
def kzf (r:Nat) (l:List Tok):Option (Int×Int):=Tzg (sgR r) l
def Czg:List Int→List Tok→Option Int
 | [],_=>none
 | o::r,l=>if isH l (builtT o).1 then some o else Czg r l
def lzg (l:List Tok):Option Int:=Czg [1,2,3,4,5,6,7] l

def becomeN (e v:Nd):Nd:=
 if e.kind=13 then ndS 23 e.str (e.kids++[v]) else if e.kind=14 then ndK 24 (e.kids++[v]) else .mk 22 0 0 e.str [] (e.kids++[v]) e.pl

def jzj:Nat→List ByteArray→List Tok→PL
 | 0,_,l=>.bad l
 | f+1,ns,l=>wordL false l fun s l=>if f≠0∧isH l [44]=true then jzj f (ns++[s]) l.tail else mustL [41] l fun l=>.ok (ns++[s]) [] l
def Tzh (l:List Tok):PL:=if isH l [41] then .ok [] [] l.tail else jzj 6 [] l

mutual
def rza:Nat→Nat→List Tok→PR
 | 0,_,l=>.bad l
 | f+1,r,l=>
  if 7≤r then
   (if isH l [45] then (rza f 7 l.tail).bind fun e _ l=>.ok (ndO 9 1 [e]) false l
   else if isH l [33] then (rza f 7 l.tail).bind fun e _ l=>.ok (ndO 9 2 [e]) false l
   else Cze f l)
  else (rza f (r+1) l).bind fun e b l=>dzd f r e b l
def dzd:Nat→Nat→Nd→Bool→List Tok→PR
 | 0,_,_,_,l=>.bad l
 | f+1,r,e,b,l=>
  match kzf r l with
  | none=>.ok e b l
  | some (k,o)=>(rza f (r+1) l.tail).bind fun e' _ l=>dzd f r (ndO k o [e,e']) false l
def Cze:Nat→List Tok→PR
 | 0,l=>.bad l
 | f+1,l=>(vzd f l).bind fun e b l=>Azc f e b l
def Azc:Nat→Nd→Bool→List Tok→PR
 | 0,_,_,l=>.bad l
 | f+1,e,b,l=>
  if isH l [46] then
   Bze true l.tail fun s l=>
    if isH l [40] then (Zzd f [e] l.tail).bind fun _ ks l=>Azc f (ndS 16 s ks) false l
    else Azc f (ndS 13 s [e]) true l
  else if isH l [91] then
   (rza f 1 l.tail).bind fun i _ l=>must [93] l fun l=>Azc f (ndK 14 [e,i]) true l
  else if isH l [40] then (Zzd f [e] l.tail).bind fun _ ks l=>Azc f (ndK 15 ks) false l
  else .ok e b l
def Zzd:Nat→List Nd→List Tok→PL
 | 0,_,l=>.bad l
 | f+1,ks,l=>
  if isH l [41] then .ok [] ks l.tail
  else (rza f 1 l).bindL fun e _ l=>Azd f (ks++[e]) l
def Azd:Nat→List Nd→List Tok→PL
 | 0,_,l=>.bad l
 | f+1,ks,l=>
  if ks.length<7∧isH l [44]=true then (rza f 1 l.tail).bindL fun e _ l=>Azd f (ks++[e]) l
  else mustL [41] l fun l=>.ok [] ks l
def vzd:Nat→List Tok→PR
 | 0,l=>.bad l
 | f+1,l=>
  if (cur l).kind=3 then .ok (.mk 3 0 (cur l).num bz [] [] 0) false l.tail
  else if (cur l).kind=4 then .ok (ndS 4 (cur l).text []) false l.tail
  else if (cur l).kind=1 then .ok (.mk 5 0 0 (cur l).text [] [] (cur l).pl) true l.tail
  else if isH l [110,117,108,108] then .ok (ndK 1 []) false l.tail
  else if isH l [116,114,117,101] then .ok (.mk 2 0 1 bz [] [] 0) false l.tail
  else if isH l [102,97,108,115,101] then .ok (ndK 2 []) false l.tail
  else if isH l [116,104,105,115] then .ok (ndK 6 []) false l.tail
  else if isH l [40] then (rza f 1 l.tail).bind fun e _ l=>must [41] l fun l=>.ok e false l
  else if isH l [123] then (bzj f l.tail).bind fun ns ks l=>.ok (.mk 7 0 0 bz ns ks 0) false l
  else if isH l [102,110] then
   must [40] l.tail fun l'=>(Tzh l').bind fun ns _ l'=>(Xzb f l').bind fun b _ l'=>.ok (.mk 8 0 0 bz ns b.kids (cur l).pl) false l'
  else match lzg l with
   | none=>.bad l
   | some o=>must [40] l.tail fun l=>(rza f 1 l).bind fun e _ l=>
     if (builtT o).2=2 then must [44] l fun l=>(rza f 1 l).bind fun e' _ l=>must [41] l fun l=>.ok (ndO 17 o [e,e']) false l
     else must [41] l fun l=>.ok (ndO 17 o [e]) false l
def bzj:Nat→List Tok→PL
 | 0,l=>.bad l
 | f+1,l=>if isH l [125] then .ok [] [] l.tail else Dze f [] [] l
def Dze:Nat→List ByteArray→List Nd→List Tok→PL
 | 0,_,_,l=>.bad l
 | f+1,ns,ks,l=>wordL true l fun s l=>mustL [58] l fun l=>(rza f 1 l).bindL fun e _ l=>rzf f (ns++[s]) (ks++[e]) l
def rzf:Nat→List ByteArray→List Nd→List Tok→PL
 | 0,_,_,l=>.bad l
 | f+1,ns,ks,l=>
  if ks.length<40∧isH l [44]=true then Dze f ns ks l.tail
  else mustL [125] l fun l=>.ok ns ks l
def Xzb:Nat→List Tok→PR
 | 0,l=>.bad l
 | f+1,l=>must [123] l fun l=>(fzc f [] l).bind fun _ ks l=>must [125] l fun l=>.ok (ndK 29 ks) false l
def fzc:Nat→List Nd→List Tok→PL
 | 0,_,l=>.bad l
 | f+1,ks,l=>
  if ks.length<40∧isH l [125]=false∧(cur l).kind≠6 then (Eze f l).bindL fun e _ l=>fzc f (ks++[e]) l
  else .ok [] ks l
def Mzf:Nat→List Tok→PR
 | 0,l=>.bad l
 | f+1,l=>must [40] l fun l=>(rza f 1 l).bind fun e _ l=>must [41] l fun l=>.ok e false l
def Eze:Nat→List Tok→PR
 | 0,l=>.bad l
 | f+1,l=>
  if isH l [105,102] then (Mzf f l.tail).bind fun e _ l=>(Xzb f l).bind fun y _ l=>
   if isH l [101,108,115,101] then (Xzb f l.tail).bind fun z _ l=>.ok (ndK 28 [e,y,z]) false l else .ok (ndK 28 [e,y,ndK 29 []]) false l
  else if isH l [119,104,105,108,101] then (Mzf f l.tail).bind fun e _ l=>(Xzb f l).bind fun y _ l=>.ok (ndK 30 [e,y]) false l
  else (Jzd f l).bind fun e _ l=>must [59] l fun l=>.ok e false l
def Jzd:Nat→List Tok→PR
 | 0,l=>.bad l
 | f+1,l=>
  if isH l [108,101,116] then Bze false l.tail fun s l'=>must [61] l' fun l'=>(rza f 1 l').bind fun e _ l'=>.ok (.mk 21 0 0 s [] [e] (cur l.tail).pl) false l'
  else if isH l [112,114,105,110,116] then (rza f 1 l.tail).bind fun e _ l=>.ok (ndK 27 [e]) false l
  else if isH l [114,101,116,117,114,110] then (rza f 1 l.tail).bind fun e _ l=>.ok (ndK 31 [e]) false l
  else if isH l [100,101,108,101,116,101] then (Cze f l.tail).bind fun e b l=>
   if b=true∧e.kind≠5 then .ok (if e.kind=13 then ndS 25 e.str e.kids else ndK 26 e.kids) false l else .bad l
  else (rza f 1 l).bind fun e b l=>
   if b=true∧isH l [61]=true then (rza f 1 l.tail).bind fun v _ l=>.ok (becomeN e v) false l else .ok (ndK 32 [e]) false l
end

def wzh (f:Nat) (prog:Bool) (l:List Tok):PR:=
 (if prog then (fzc f [] l).bind fun _ ks l=>.ok (ndK 29 ks) false l else rza f 1 l).bind fun e _ l=>if (cur l).kind=6 then .ok e false l else .bad l

end Go.Proofs.YtdnnmjhfidimcaaGreatDoor
