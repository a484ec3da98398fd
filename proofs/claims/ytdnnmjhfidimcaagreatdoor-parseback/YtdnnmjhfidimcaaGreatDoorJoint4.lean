/- Where calls stand; signs and built-in calls. The document's grammar as plain functions over tokens. One step of reading tokens. Tokens that may be come back from their text. -/
import Derived.Test.YtdnnmjhfidimcaaGreatDoorJoint3
import Derived.Test.YtdnnmjhfidimcaaGreatDoorKey
import Derived.Test.YtdnnmjhfidimcaaGreatDoorJoint1
namespace Go.Proofs.YtdnnmjhfidimcaaGreatDoor
open Go.RowKit
def Ok (B:Nat) (w:World):Prop:=B≤w.heap.size∧1<B∧iF 1 tsgnL w
theorem aR {B:Nat} {a c:World} (h:Ok B a) (q:Below B a c):Ok B c:=
 ⟨Nat.le_trans h.1 q.size,h.2.1,fun i hi=>bF q h.2.1 (h.2.2 i hi)⟩
theorem rI (o:Int) (B:Nat) (w:World) (hO:Hid (Ok B w)) :
  Calls Tryz.prog 139 #[.int .i64 o] w fun e w'=>e=.returned (.string ⟨(signT o).toArray⟩)∧w=w':=by
 by_cases h0:o<0
 ·have H:=aA (show signT o=[] by unfold signT;rw [if_pos h0]);go_enter Tryz.func139,Tryz.ntmps139;go_wp2_with fail;go_ret;exact⟨by rw [H.out];rfl,rfl⟩
 have d0:decide (o<0)=false:=decide_eq_false h0;by_cases h1:12≤o
 ·have H:=aA (show signT o=[] by
   unfold signT;rw [if_neg h0,List.getD_eq_getElem?_getD,List.getElem?_eq_none (by simp [tsgnL];omega)];rfl)
  go_enter Tryz.func139,Tryz.ntmps139;go_wp2_with fail;go_ret;exact⟨by rw [H.out];rfl,rfl⟩
 have d1:decide (12≤o)=false:=decide_eq_false h1;obtain⟨j,rfl⟩:∃ j:Nat,o=(j:Int):=⟨o.toNat,by omega⟩
 have hj:j<tsgnL.length:=by show j<12;omega
 have c:=hO.out.2.2 j hj;have H:=aA (show signT (j:Int)=tsgnL[j] by
  unfold signT;rw [if_neg h0,List.getD_eq_getElem?_getD,Int.toNat_natCast,List.getElem?_eq_getElem hj];rfl)
 have hj12:j<12:=hj;clear hO;generalize tsgnL[j]=x at *
 go_enter Tryz.func139,Tryz.ntmps139;go_wp2_with fail;go_ret;exact⟨by rw [H.out];rfl,rfl⟩
theorem oE (o:Int) (w:World) :
  Calls Tryz.prog 147 #[.int .i64 o] w fun e w'=>e=.returned (.tuple #[.string ⟨(builtT o).1.toArray⟩,.int .i64 (builtT o).2])∧w=w':=by
 by_cases h:1≤o∧o≤7
 ·obtain rfl | rfl | rfl | rfl | rfl | rfl | rfl:o=1∨o=2∨o=3∨o=4∨o=5∨o=6∨o=7:=by omega
  all_goals
   clear h;go_enter Tryz.func147,Tryz.ntmps147;go_wp2_with fail;go_ret2;exact⟨rfl,rfl⟩
 ·have H:=aA (show builtT o=([],0) by
   unfold builtT;by_cases h0:o<0
   ·rw [if_pos h0]
   ·rw [if_neg h0];by_cases h1:o=0
    ·subst h1;rfl
    ·rw [List.getD_eq_getElem?_getD,List.getElem?_eq_none (by simp [builtL];omega)];rfl)
  have e1:(o==1)=false:=beq_eq_false_iff_ne.2 (by omega);have e2:(o==2)=false:=beq_eq_false_iff_ne.2 (by omega);have e3:(o==3)=false:=beq_eq_false_iff_ne.2 (by omega);have e4:(o==4)=false:=beq_eq_false_iff_ne.2 (by omega);have e5:(o==5)=false:=beq_eq_false_iff_ne.2 (by omega);have e6:(o==6)=false:=beq_eq_false_iff_ne.2 (by omega);have e7:(o==7)=false:=beq_eq_false_iff_ne.2 (by omega);clear h;go_enter Tryz.func147,Tryz.ntmps147;go_wp2_with fail;go_ret2;exact⟨by rw [H.out];rfl,rfl⟩
theorem gR {B:Nat} {w:World} {a:Option Addr} {c q:Nat} {ks:List Nd} (h:dI B w (.slice a c q) ks) (hl:ks≠[]):∃ b off,a=some ⟨b,off,none⟩∧b<B∧jN B w b ks off:=by
 rcases h with ⟨_,_,_,h⟩ | ⟨b,off,cap,e,hb,h,_⟩
 ·exact absurd h hl
 ·injection e with e1 e2 e3;exact⟨b,off,e1,hb,h⟩
theorem oF {α:Type} {l:List α} (h:l.length=2):∃ a b,l=[a,b]:=by
 match l,h with
 | [a,b],_=>exact⟨a,b,rfl⟩
theorem vH {α:Type} {l:List α} (h:l.length=3):∃ a b c,l=[a,b,c]:=by
 match l,h with
 | [a,b,c],_=>exact⟨a,b,c,rfl⟩
inductive PR where
 | ok (t:Nd) (b:Bool) (l:List Tok)
 | bad (l:List Tok)
inductive PL where
 | ok (ns:List ByteArray) (ts:List Nd) (l:List Tok)
 | bad (l:List Tok)
def PR.bind (x:PR) (k:Nd→Bool→List Tok→PR):PR:=match x with | .ok t b l=>k t b l | .bad l=>.bad l
def PR.bindL (x:PR) (k:Nd→Bool→List Tok→PL):PL:=match x with | .ok t b l=>k t b l | .bad l=>.bad l
def PL.bind (x:PL) (k:List ByteArray→List Nd→List Tok→PR):PR:=match x with | .ok ns ts l=>k ns ts l | .bad l=>.bad l
theorem PR.bind_ok (t:Nd) (b:Bool) (l:List Tok) (k:Nd→Bool→List Tok→PR):(PR.ok t b l).bind k=k t b l:=rfl
theorem PR.bind_bad (l:List Tok) (k:Nd→Bool→List Tok→PR):(PR.bad l).bind k=.bad l:=rfl
theorem PR.bindL_ok (t:Nd) (b:Bool) (l:List Tok) (k:Nd→Bool→List Tok→PL):(PR.ok t b l).bindL k=k t b l:=rfl
theorem PR.bindL_bad (l:List Tok) (k:Nd→Bool→List Tok→PL):(PR.bad l).bindL k=.bad l:=rfl
theorem PL.bind_ok (ns:List ByteArray) (ts:List Nd) (l:List Tok) (k:List ByteArray→List Nd→List Tok→PR):(PL.ok ns ts l).bind k=k ns ts l:=rfl
theorem PL.bind_bad (l:List Tok) (k:List ByteArray→List Nd→List Tok→PR):(PL.bad l).bind k=.bad l:=rfl
def bz:ByteArray:=⟨#[]⟩
def iH (k:Int) (ks:List Nd):Nd:=.mk k 0 0 bz [] ks 0
def gS (k o:Int) (ks:List Nd):Nd:=.mk k o 0 bz [] ks 0
def uU (k:Int) (s:ByteArray) (ks:List Nd):Nd:=.mk k 0 0 s [] ks 0
def cur (l:List Tok):Tok:=l.headD Tok.zero
def gP (t:Tok) (x:List UInt8):Bool:=(t.kind==2||t.kind==5)&&t.text.data.toList==x
def cD (l:List Tok) (x:List UInt8):Bool:=gP (cur l) x
def rF (key:Bool) (l:List Tok):Bool:=(cur l).kind==1||(key&&(cur l).kind==2)
def must (x:List UInt8) (l:List Tok) (k:List Tok→PR):PR:=if cD l x then k l.tail else .bad l
def mustL (x:List UInt8) (l:List Tok) (k:List Tok→PL):PL:=if cD l x then k l.tail else .bad l
def kR (key:Bool) (l:List Tok) (k:ByteArray→List Tok→PR):PR:=if rF key l then k (cur l).text l.tail else .bad l
def wordL (key:Bool) (l:List Tok) (k:ByteArray→List Tok→PL):PL:=if rF key l then k (cur l).text l.tail else .bad l
def AK (r:Nat):List (List UInt8×Int×Int):=
 match r with
 | 1=>[([124,124],12,0)]
 | 2=>[([38,38],11,0)]
 | 3=>[([61,61],10,10),([33,61],10,11)]
 | 4=>[([60],10,6),([60,61],10,7),([62],10,8),([62,61],10,9)]
 | 5=>[([43],10,1),([45],10,2)]
 | 6=>[([42],10,3),([47],10,4),([37],10,5)]
 | _=>[]
def qD:List (List UInt8×Int×Int)→List Tok→Option (Int×Int)
 | [],_=>none
 | (x,k,o)::r,l=>if cD l x then some (k,o) else qD r l
def mF (r:Nat) (l:List Tok):Option (Int×Int):=qD (AK r) l
def pI:List Int→List Tok→Option Int
 | [],_=>none
 | o::r,l=>if cD l (builtT o).1 then some o else pI r l
def oL (l:List Tok):Option Int:=pI [1,2,3,4,5,6,7] l
def becomeN (e v:Nd):Nd:=
 if e.kind=13 then uU 23 e.str (e.kids++[v]) else if e.kind=14 then iH 24 (e.kids++[v]) else .mk 22 0 0 e.str [] (e.kids++[v]) e.pl
def vI:Nat→List ByteArray→List Tok→PL
 | 0,_,l=>.bad l
 | f+1,ns,l=>wordL false l fun s l=>if f≠0∧cD l [44]=true then vI f (ns++[s]) l.tail else mustL [41] l fun l=>.ok (ns++[s]) [] l
def sG (l:List Tok):PL:=if cD l [41] then .ok [] [] l.tail else vI 6 [] l
mutual
def aS:Nat→Nat→List Tok→PR
 | 0,_,l=>.bad l
 | f+1,r,l=>
  if 7≤r then
   (if cD l [45] then (aS f 7 l.tail).bind fun e _ l=>.ok (gS 9 1 [e]) false l
   else if cD l [33] then (aS f 7 l.tail).bind fun e _ l=>.ok (gS 9 2 [e]) false l
   else kS f l)
  else (aS f (r+1) l).bind fun e b l=>gQ f r e b l
def gQ:Nat→Nat→Nd→Bool→List Tok→PR
 | 0,_,_,_,l=>.bad l
 | f+1,r,e,b,l=>
  match mF r l with
  | none=>.ok e b l
  | some (k,o)=>(aS f (r+1) l.tail).bind fun e' _ l=>gQ f r (gS k o [e,e']) false l
def kS:Nat→List Tok→PR
 | 0,l=>.bad l
 | f+1,l=>(iG f l).bind fun e b l=>fN f e b l
def fN:Nat→Nd→Bool→List Tok→PR
 | 0,_,_,l=>.bad l
 | f+1,e,b,l=>
  if cD l [46] then
   kR true l.tail fun s l=>
    if cD l [40] then (jO f [e] l.tail).bind fun _ ks l=>fN f (uU 16 s ks) false l
    else fN f (uU 13 s [e]) true l
  else if cD l [91] then
   (aS f 1 l.tail).bind fun i _ l=>must [93] l fun l=>fN f (iH 14 [e,i]) true l
  else if cD l [40] then (jO f [e] l.tail).bind fun _ ks l=>fN f (iH 15 ks) false l
  else .ok e b l
def jO:Nat→List Nd→List Tok→PL
 | 0,_,l=>.bad l
 | f+1,ks,l=>
  if cD l [41] then .ok [] ks l.tail
  else (aS f 1 l).bindL fun e _ l=>iL f (ks++[e]) l
def iL:Nat→List Nd→List Tok→PL
 | 0,_,l=>.bad l
 | f+1,ks,l=>
  if ks.length<7∧cD l [44]=true then (aS f 1 l.tail).bindL fun e _ l=>iL f (ks++[e]) l
  else mustL [41] l fun l=>.ok [] ks l
def iG:Nat→List Tok→PR
 | 0,l=>.bad l
 | f+1,l=>
  if (cur l).kind=3 then .ok (.mk 3 0 (cur l).num bz [] [] 0) false l.tail
  else if (cur l).kind=4 then .ok (uU 4 (cur l).text []) false l.tail
  else if (cur l).kind=1 then .ok (.mk 5 0 0 (cur l).text [] [] (cur l).pl) true l.tail
  else if cD l [110,117,108,108] then .ok (iH 1 []) false l.tail
  else if cD l [116,114,117,101] then .ok (.mk 2 0 1 bz [] [] 0) false l.tail
  else if cD l [102,97,108,115,101] then .ok (iH 2 []) false l.tail
  else if cD l [116,104,105,115] then .ok (iH 6 []) false l.tail
  else if cD l [40] then (aS f 1 l.tail).bind fun e _ l=>must [41] l fun l=>.ok e false l
  else if cD l [123] then (uV f l.tail).bind fun ns ks l=>.ok (.mk 7 0 0 bz ns ks 0) false l
  else if cD l [102,110] then
   must [40] l.tail fun l'=>(sG l').bind fun ns _ l'=>(eC f l').bind fun b _ l'=>.ok (.mk 8 0 0 bz ns b.kids (cur l).pl) false l'
  else match oL l with
   | none=>.bad l
   | some o=>must [40] l.tail fun l=>(aS f 1 l).bind fun e _ l=>
     if (builtT o).2=2 then must [44] l fun l=>(aS f 1 l).bind fun e' _ l=>must [41] l fun l=>.ok (gS 17 o [e,e']) false l
     else must [41] l fun l=>.ok (gS 17 o [e]) false l
def uV:Nat→List Tok→PL
 | 0,l=>.bad l
 | f+1,l=>if cD l [125] then .ok [] [] l.tail else kT f [] [] l
def kT:Nat→List ByteArray→List Nd→List Tok→PL
 | 0,_,_,l=>.bad l
 | f+1,ns,ks,l=>wordL true l fun s l=>mustL [58] l fun l=>(aS f 1 l).bindL fun e _ l=>mO f (ns++[s]) (ks++[e]) l
def mO:Nat→List ByteArray→List Nd→List Tok→PL
 | 0,_,_,l=>.bad l
 | f+1,ns,ks,l=>
  if ks.length<40∧cD l [44]=true then kT f ns ks l.tail
  else mustL [125] l fun l=>.ok ns ks l
def eC:Nat→List Tok→PR
 | 0,l=>.bad l
 | f+1,l=>must [123] l fun l=>(eK f [] l).bind fun _ ks l=>must [125] l fun l=>.ok (iH 29 ks) false l
def eK:Nat→List Nd→List Tok→PL
 | 0,_,l=>.bad l
 | f+1,ks,l=>
  if ks.length<40∧cD l [125]=false∧(cur l).kind≠6 then (kU f l).bindL fun e _ l=>eK f (ks++[e]) l
  else .ok [] ks l
def nL:Nat→List Tok→PR
 | 0,l=>.bad l
 | f+1,l=>must [40] l fun l=>(aS f 1 l).bind fun e _ l=>must [41] l fun l=>.ok e false l
def kU:Nat→List Tok→PR
 | 0,l=>.bad l
 | f+1,l=>
  if cD l [105,102] then (nL f l.tail).bind fun e _ l=>(eC f l).bind fun y _ l=>
   if cD l [101,108,115,101] then (eC f l.tail).bind fun z _ l=>.ok (iH 28 [e,y,z]) false l else .ok (iH 28 [e,y,iH 29 []]) false l
  else if cD l [119,104,105,108,101] then (nL f l.tail).bind fun e _ l=>(eC f l).bind fun y _ l=>.ok (iH 30 [e,y]) false l
  else (iV f l).bind fun e _ l=>must [59] l fun l=>.ok e false l
def iV:Nat→List Tok→PR
 | 0,l=>.bad l
 | f+1,l=>
  if cD l [108,101,116] then kR false l.tail fun s l'=>must [61] l' fun l'=>(aS f 1 l').bind fun e _ l'=>.ok (.mk 21 0 0 s [] [e] (cur l.tail).pl) false l'
  else if cD l [112,114,105,110,116] then (aS f 1 l.tail).bind fun e _ l=>.ok (iH 27 [e]) false l
  else if cD l [114,101,116,117,114,110] then (aS f 1 l.tail).bind fun e _ l=>.ok (iH 31 [e]) false l
  else if cD l [100,101,108,101,116,101] then (kS f l.tail).bind fun e b l=>
   if b=true∧e.kind≠5 then .ok (if e.kind=13 then uU 25 e.str e.kids else iH 26 e.kids) false l else .bad l
  else (aS f 1 l).bind fun e b l=>
   if b=true∧cD l [61]=true then (aS f 1 l.tail).bind fun v _ l=>.ok (becomeN e v) false l else .ok (iH 32 [e]) false l
end
def rJ (f:Nat) (prog:Bool) (l:List Tok):PR:=
 (if prog then (eK f [] l).bind fun _ ks l=>.ok (iH 29 ks) false l else aS f 1 l).bind fun e _ l=>if (cur l).kind=6 then .ok e false l else .bad l
theorem yK {s:ByteArray} {f k:Nat} {acc:List Tok} (h:s.size≤k):jD s (f+1) k acc=(acc++[⟨6,⟨#[]⟩,0,s.size⟩],0,0):=by rw [jD,if_pos h]
theorem CT {s:ByteArray} {f k:Nat} {acc:List Tok} {o:TokOut} (h:k<s.size) (ho:cA (s.data.toList.drop k) k=o) (he:o.2.2≠0):jD s (f+1) k acc=([],o.2.1,o.2.2):=by
 rw [jD,if_neg (by omega),ho,if_pos he]
theorem vO {s:ByteArray} {f k:Nat} {acc:List Tok} {o:TokOut} (h:k<s.size) (ho:cA (s.data.toList.drop k) k=o) (he:o.2.2=0) (hf:acc.length=600):jD s (f+1) k acc=([],k,5):=by
 rw [jD,if_neg (by omega),ho,if_neg (by rw [he];decide),if_pos hf]
theorem vP {s:ByteArray} {f k:Nat} {acc:List Tok} {o:TokOut} (h:k<s.size) (ho:cA (s.data.toList.drop k) k=o) (he:o.2.2=0) (hf:acc.length≠600) :
  jD s (f+1) k acc=jD s f (skipTo false s o.2.1) (acc++[o.1]):=by
 rw [jD,if_neg (by omega),ho,if_neg (by rw [he];decide),if_neg hf]
theorem Aq:∀ (f m:Nat),(sQ f m).all jC=true
 | 0,_=>by simp [sQ]
 | f+1,m=>by
  unfold sQ;split
  ·rename_i h;simp only [List.all_cons,List.all_nil,jC,zA h];simp;omega
  ·rw [List.all_append,Aq f (m / 10)];simp only [List.all_cons,List.all_nil,jC,uF];simp;omega
theorem Oe:∀ (f m:Nat),sQ (f+1) m≠[]:=by
 intro f m;unfold sQ;split<;>simp
theorem CU:∀ (f m:Nat),m<10 ^ f→(m≤4611686018427387903→mL (sQ f m)=((m:Int),false))∧(4611686018427387903<m→(mL (sQ f m)).2=true)
 | 0,m,h=>by
  have:m=0:=by simpa using h
  subst this;exact⟨fun _=>rfl,fun h=>absurd h (by decide)⟩
 | f+1,m,h=>by
  by_cases hs:m<10
  ·rw [nK hs];refine⟨fun _=>?_,fun h=>by omega⟩;simp only [mL,List.foldl_cons,List.foldl_nil,zA hs,mD];rw [if_neg (by simp;omega)];simp;omega
  ·rw [wH (by omega),Ax,uF];have hq:m / 10<10 ^ f:=by rw [Nat.pow_succ] at h;omega
   have ih:=CU f (m / 10) hq;refine⟨fun hm=>?_,fun hm=>?_⟩
   ·rw [ih.1 (by omega)];unfold mD;rw [if_neg (by simp;omega)];simp;omega
   ·by_cases hq2:m / 10≤4611686018427387903
    ·rw [ih.1 hq2];unfold mD;rw [if_pos (by right;simp;omega)]
    ·unfold mD;rw [if_pos (Or.inl (ih.2 (by omega)))]
theorem Qa {n:Int} (h0:0≤n) (h1:n≤4611686018427387903):dD (digs n)=(n,0):=by
 unfold digs;rw [if_neg (by omega),rG (Oe _ _) (Aq _ _),(CU 20 n.natAbs (by omega)).1 (by omega)];unfold wF;simp;omega
theorem Fm (x r:List UInt8):(x++r).take x.length=x:=by simp
theorem tD (s:ByteArray):(⟨s.data.toList.toArray⟩:ByteArray)=s:=by cases s;simp
theorem Fo {b:UInt8} {x r:List UInt8} {k:Nat} (h:aW b.toNat=true):cA (b::x++r) k=hD (b::x++r) k:=by
 show cA (b::(x++r)) k=hD (b::(x++r)) k;unfold cA;simp only;rw [if_pos h]
theorem zP {n:Nat} (h:aW n=true):dS n=true:=by simp [dS,h]
theorem DK {n:Nat} (h:bA n=true):aW n=false:=by
 simp [bA] at h;simp [aW];omega
theorem Ma:∀ x∈keyL,∃ b r,x=b::r∧aW b.toNat=true∧∀ c∈x,dS c.toNat=true:=by
 have h:∀ x∈keyL,(match x with | []=>false | b::_=>aW b.toNat)=true∧x.all (fun c=>dS c.toNat)=true:=by decide
 intro x hx;obtain⟨h1,h2⟩:=h x hx;cases x with
 | nil=>cases h1
 | cons b r=>exact⟨b,r,rfl,h1,fun c hc=>List.all_eq_true.1 h2 c hc⟩
theorem vQ {x:List UInt8} (h:nameB x=true):∃ b r,x=b::r∧aW b.toNat=true∧∀ c∈x,dS c.toNat=true:=by
 cases x with
 | nil=>cases h
 | cons b r=>
  simp only [nameB,Bool.and_eq_true,List.all_eq_true] at h;refine⟨b,r,rfl,h.1.1,?_⟩;intro c hc;rcases List.mem_cons.1 hc with rfl | hc
  ·exact zP h.1.1
  ·exact h.1.2 c hc
def Tok.put (t:Tok) (k:Nat):Tok:=⟨t.kind,t.text,t.num,k⟩
theorem Mb {b:UInt8} {y:List UInt8} {k:Nat} (h:gE b.toNat=true):(cA (b::y) k).2.2=11:=by
 have h3:b=32∨b=10∨b=9:=by
  simp [gE] at h;rcases h with h | h | h
  ·left;exact UInt8.toNat_inj.1 h
  ·right;left;exact UInt8.toNat_inj.1 h
  ·right;right;exact UInt8.toNat_inj.1 h
 rcases h3 with rfl | rfl | rfl<;>rfl
def bare (t:Tok):Int×ByteArray×Int:=(t.kind,t.text,t.num)
end Go.Proofs.YtdnnmjhfidimcaaGreatDoor
