/- A tree's text as tokens and blanks. Pieces that stand well beside each other are read as their tokens. Whether a tree may be a program. A tree that lies below a place lies below any later one. -/
import Derived.Test.YtdnnmjhfidimcaaGreatDoorJoint3
import Derived.Test.YtdnnmjhfidimcaaGreatDoorJoint2
import Derived.Test.YtdnnmjhfidimcaaGreatDoorJoint28
import Derived.Test.YtdnnmjhfidimcaaGreatDoorJoint12
namespace Go.Proofs.YtdnnmjhfidimcaaGreatDoor
set_option maxHeartbeats 1600000
open Go.RowKit
inductive Pc where
 | bl
 | tk (t:Tok)
def Pc.text:Pc→List UInt8
 | .bl=>[32]
 | .tk t=>eL t
def laid (l:List Pc):List UInt8:=l.flatMap Pc.text
def aK:List Pc→List Tok
 | []=>[]
 | .bl::r=>aK r
 | .tk t::r=>t::aK r
theorem mD:laid []=[]:=rfl
theorem bI (p:Pc) (r:List Pc):laid (p::r)=p.text++laid r:=by simp [laid]
theorem cD (a b:List Pc):laid (a++b)=laid a++laid b:=by simp [laid]
theorem aZ:∀ a b:List Pc,aK (a++b)=aK a++aK b
 | [],b=>rfl
 | .bl::r,b=>by show aK (r++b)=aK r++aK b;exact aZ r b
 | .tk t::r,b=>by show t::aK (r++b)=t::aK r++aK b;rw [aZ r b];rfl
def rH (x:List UInt8):Tok:=⟨2,⟨x.toArray⟩,0,0⟩
def cY (x:List UInt8):Tok:=⟨5,⟨x.toArray⟩,0,0⟩
def CW (s:ByteArray):Tok:=⟨1,s,0,0⟩
def Bm (s:ByteArray):Tok:=⟨if jG s.data.toList then 2 else 1,s,0,0⟩
def kw (x:List UInt8):Pc:=.tk (rH x)
def sg (x:List UInt8):Pc:=.tk (cY x)
def nm (s:ByteArray):Pc:=.tk (CW s)
def pp (s:ByteArray):Pc:=.tk (Bm s)
theorem kB (x:List UInt8):(kw x).text=x:=by simp [kw,rH,Pc.text,eL]
theorem gM (x:List UInt8):(sg x).text=x:=by simp [sg,cY,Pc.text,eL]
theorem qT (s:ByteArray):(nm s).text=s.data.toList:=by simp [nm,CW,Pc.text,eL]
theorem yO (s:ByteArray):(pp s).text=s.data.toList:=by
 unfold pp Bm Pc.text eL;cases jG s.data.toList<;>rfl
theorem iX:Pc.bl.text=[32]:=rfl
structure Px where
 kind:Int
 rank:Int
 e:List Pc
 s:List Pc
 b:List Pc
 has:Bool
def Px.tx (x:Px):Tx:=⟨x.kind,x.rank,laid x.e,laid x.s,laid x.b,x.has⟩
def Px.none:Px:=⟨0,0,[],[],[],false⟩
def MQ (k n:Int) (s:ByteArray):Pc:=
 if k=1 then kw [110,117,108,108] else if k=6 then kw [116,104,105,115] else if k=2 then (if n=0 then kw [102,97,108,115,101] else kw [116,114,117,101])
 else if k=3 then .tk ⟨3,⟨(digs n).toArray⟩,n,0⟩ else if k=4 then .tk ⟨4,s,0,0⟩ else nm s
def iG (x:Px) (least:Int):List Pc:=if least≤x.rank then x.e else sg [40]::(x.e++[sg [41]])
def fJ (l:List Px):List Pc:=l.flatMap fun x=>sg [44] :: .bl::x.e
def mM:List Px→List Pc
 | []=>[]
 | x::r=>x.e++fJ r
def kU (l:List Px):List Pc:=sg [40]::(mM l++[sg [41]])
def sF (s:ByteArray) (x:Px):List Pc:=pp s::sg [58] :: .bl::x.e
def fK:List ByteArray→List Px→List Pc
 | s::ns,x::r=>sg [44] :: .bl::(sF s x++fK ns r)
 | _,_=>[]
def wS:List ByteArray→List Px→List Pc
 | s::ns,x::r=>sg [123]::(sF s x++fK ns r++[sg [125]])
 | _,_=>[sg [123],sg [125]]
def mE (ns:List ByteArray):List Pc:=ns.flatMap fun x=>[sg [44],.bl,nm x]
def nO:List ByteArray→List Pc
 | []=>[]
 | s::r=>nm s::mE r
def fC (l:List Px):List Pc:=l.flatMap fun x=>.bl::x.s
def blockC (l:List Px):List Pc:=sg [123]::(fC l++(if l.isEmpty then [sg [125]] else [.bl,sg [125]]))
def pY:List Px→List Pc
 | []=>[]
 | x::r=>x.s++fC r
def sG (x:Px) (s:ByteArray):List Pc:=iG x 8++[sg [46],pp s]
def mF (x y:Px):List Pc:=iG x 8++(sg [91]::(y.e++[sg [93]]))
def gV (x:Px):List Pc:=.bl::sg [61] :: .bl::x.e
def lE (r:Int) (g:List UInt8) (x y:Px):List Pc:=iG x r++(.bl::sg g :: .bl::iG y (r+1))
def c0 (l:List Px):Px:=l.getD 0 Px.none
def c1 (l:List Px):Px:=l.getD 1 Px.none
def c2 (l:List Px):Px:=l.getD 2 Px.none
def exprC (k o n:Int) (s:ByteArray) (ns:List ByteArray) (l:List Px):List Pc:=
 if k=7 then wS ns l
 else if k=8 then kw [102,110]::sg [40]::(nO ns++(sg [41] :: .bl::blockC l))
 else if k=9 then sg [if o=1 then 45 else 33]::iG (c0 l) 7
 else if k=10 then lE (rankT 10 o) (signT o) (c0 l) (c1 l)
 else if k=11 then lE 2 [38,38] (c0 l) (c1 l)
 else if k=12 then lE 1 [124,124] (c0 l) (c1 l)
 else if k=13 then sG (c0 l) s
 else if k=14 then mF (c0 l) (c1 l)
 else if k=15 then iG (c0 l) (if (c0 l).kind=13 then 9 else 8)++kU l.tail
 else if k=16 then sG (c0 l) s++kU l.tail
 else if k=17 then kw (builtT o).1::kU l
 else [MQ k n s]
def GP (k:Int) (s:ByteArray) (l:List Px):List Pc:=
 if k=21 then kw [108,101,116] :: .bl::nm s::gV (c0 l)
 else if k=22 then nm s::gV (c0 l)
 else if k=23 then sG (c0 l) s++gV (c1 l)
 else if k=24 then mF (c0 l) (c1 l)++gV (c2 l)
 else if k=25 then kw [100,101,108,101,116,101] :: .bl::sG (c0 l) s
 else if k=26 then kw [100,101,108,101,116,101] :: .bl::mF (c0 l) (c1 l)
 else if k=27 then kw [112,114,105,110,116] :: .bl::(c0 l).e
 else if k=31 then kw [114,101,116,117,114,110] :: .bl::(c0 l).e
 else if k=32 then (c0 l).e else []
def lI (key:List UInt8) (x y:Px):List Pc:=kw key :: .bl::sg [40]::(x.e++(sg [41] :: .bl::y.b))
def stmtC (k:Int) (s:ByteArray) (l:List Px):List Pc:=
 if k=28 then lI [105,102] (c0 l) (c1 l)++(if (c2 l).has then .bl::kw [101,108,115,101] :: .bl::(c2 l).b else [])
 else if k=30 then lI [119,104,105,108,101] (c0 l) (c1 l)
 else GP k s l++[sg [59]]
mutual
def pcN:Nd→Px
 | .mk k o n s ns ks _=>⟨k,rankT k o,exprC k o n s ns (Qd ks),stmtC k s (Qd ks),blockC (Qd ks),!ks.isEmpty⟩
def Qd:List Nd→List Px
 | []=>[]
 | x::r=>pcN x::Qd r
end
theorem II:∀ l:List Nd,Qd l=l.map pcN
 | []=>by rw [Qd];rfl
 | x::r=>by rw [Qd,II r];rfl
theorem cI (k o n:Int) (s:ByteArray) (ns:List ByteArray) (ks:List Nd) (p:Int) :
  pcN (.mk k o n s ns ks p)=⟨k,rankT k o,exprC k o n s ns (ks.map pcN),stmtC k s (ks.map pcN),blockC (ks.map pcN),!ks.isEmpty⟩:=by
 rw [pcN,II]
theorem CX (l:List Px) (i:Nat):(l.map Px.tx).getD i Tx.none=(l.getD i Px.none).tx:=by
 rw [List.getD_eq_getElem?_getD,List.getD_eq_getElem?_getD,List.getElem?_map];cases l[i]?<;>rfl
theorem MR (l:List Px):rG (l.map Px.tx)=(c0 l).tx:=CX l 0
theorem MS (l:List Px):Bl (l.map Px.tx)=(c1 l).tx:=CX l 1
theorem Pt (l:List Px):MP (l.map Px.tx)=(c2 l).tx:=CX l 2
theorem KX (k n:Int) (s:ByteArray):(MQ k n s).text=iJ k n s:=by
 unfold MQ iJ;split
 ·rw [kB]
 split
 ·rw [kB]
 split
 ·split<;>rw [kB]
 split
 ·simp [Pc.text,eL]
 split
 ·simp [Pc.text,eL]
 ·rw [qT]
theorem mW (x:Px) (r:Int):laid (iG x r)=cB x.tx r:=by
 unfold iG cB;show laid (if r≤x.rank then x.e else _)=if r≤x.rank then laid x.e else _
 split
 ·rfl
 ·simp [bI,cD,gM,mD,Px.tx]
theorem xQ:∀ l:List Px,laid (fJ l)=nD (l.map Px.tx)
 | []=>rfl
 | x::r=>by
  have:=xQ r;simp only [fJ,nD,List.flatMap_cons,List.map_cons,cD,bI,gM,iX] at *
  rw [this];simp [Px.tx]
theorem KY (l:List Px):laid (mM l)=jJ (l.map Px.tx):=by
 cases l with
 | nil=>rfl
 | cons x r=>rw [mM,List.map_cons,jJ,cD,xQ];rfl
theorem wT (l:List Px):laid (kU l)=iT (l.map Px.tx):=by
 unfold kU iT;rw [bI,cD,KY,bI,gM,gM];rfl
theorem xR:∀ (ns:List ByteArray) (l:List Px),laid (fK ns l)=gZ ns (l.map Px.tx)
 | [],l=>by cases l<;>rfl
 | s::ns,[]=>rfl
 | s::ns,x::r=>by
  rw [fK,List.map_cons,gZ,← xR ns r];simp [bI,cD,gM,yO,iX,sF,mV,Px.tx]
theorem MT (ns:List ByteArray) (l:List Px):laid (wS ns l)=oZ ns (l.map Px.tx):=by
 cases ns with
 | nil=>cases l<;>simp [wS,oZ,bI,gM,mD]
 | cons s ns=>
  cases l with
  | nil=>simp [wS,oZ,bI,gM,mD]
  | cons x r=>
   rw [wS,List.map_cons,oZ,← xR ns r];simp [bI,cD,gM,yO,iX,sF,mV,Px.tx,mD]
theorem KZ (ns:List ByteArray):laid (nO ns)=nN ns:=by
 cases ns with
 | nil=>rfl
 | cons s r=>
  rw [nO,nN,bI,qT];congr 1;induction r with
  | nil=>rfl
  | cons y r ih=>simp only [mE,List.flatMap_cons,cD,bI,gM,iX,qT] at *;rw [ih];simp [mD]
theorem sH:∀ l:List Px,laid (fC l)=fI (l.map Px.tx)
 | []=>rfl
 | x::r=>by
  have:=sH r;simp only [fC,fI,List.flatMap_cons,List.map_cons,cD,bI,iX] at *
  rw [this];simp [Px.tx]
theorem Av (l:List Px):laid (blockC l)=blockT (l.map Px.tx):=by
 unfold blockC blockT;rw [bI,cD,sH,gM];cases l<;>simp [bI,mD,gM,iX]
theorem CY (l:List Px):laid (pY l)=dS (l.map Px.tx):=by
 cases l with
 | nil=>rfl
 | cons x r=>rw [pY,List.map_cons,dS,cD,sH];rfl
theorem vO (x:Px) (s:ByteArray):laid (sG x s)=lD x.tx s:=by
 unfold sG lD;rw [cD,mW];simp [bI,mD,gM,yO]
theorem uH (x y:Px):laid (mF x y)=gT x.tx y.tx:=by
 unfold mF gT;rw [cD,mW];simp [bI,mD,cD,gM,Px.tx]
theorem oD (x:Px):laid (gV x)=cZ x.tx:=by
 unfold gV cZ;simp [bI,gM,iX,Px.tx]
theorem qU (r:Int) (g:List UInt8) (x y:Px):laid (lE r g x y)=fH r g x.tx y.tx:=by
 unfold lE fH;rw [cD,mW];simp [bI,mW,gM,iX]
theorem La (k o n:Int) (s:ByteArray) (ns:List ByteArray) (l:List Px):laid (exprC k o n s ns l)=exprT k o n s ns (l.map Px.tx):=by
 unfold exprC exprT;rw [MR,MS];by_cases h7:k=7
 ·rw [if_pos h7,if_pos h7];exact MT ns l
 rw [if_neg h7,if_neg h7];by_cases h8:k=8
 ·rw [if_pos h8,if_pos h8];simp [bI,cD,kB,gM,iX,KZ,Av]
 rw [if_neg h8,if_neg h8];by_cases h9:k=9
 ·rw [if_pos h9,if_pos h9];rw [bI,mW,gM];rfl
 rw [if_neg h9,if_neg h9];by_cases h10:k=10
 ·rw [if_pos h10,if_pos h10];exact qU _ _ _ _
 rw [if_neg h10,if_neg h10];by_cases h11:k=11
 ·rw [if_pos h11,if_pos h11];exact qU _ _ _ _
 rw [if_neg h11,if_neg h11];by_cases h12:k=12
 ·rw [if_pos h12,if_pos h12];exact qU _ _ _ _
 rw [if_neg h12,if_neg h12];by_cases h13:k=13
 ·rw [if_pos h13,if_pos h13];exact vO _ _
 rw [if_neg h13,if_neg h13];by_cases h14:k=14
 ·rw [if_pos h14,if_pos h14];exact uH _ _
 rw [if_neg h14,if_neg h14];by_cases h15:k=15
 ·rw [if_pos h15,if_pos h15];rw [cD,mW,wT,List.map_tail];rfl
 rw [if_neg h15,if_neg h15];by_cases h16:k=16
 ·rw [if_pos h16,if_pos h16];rw [cD,vO,wT,List.map_tail]
 rw [if_neg h16,if_neg h16];by_cases h17:k=17
 ·rw [if_pos h17,if_pos h17];rw [bI,wT,kB]
 rw [if_neg h17,if_neg h17];rw [bI,KX,mD,List.append_nil]
theorem GQ (k:Int) (s:ByteArray) (l:List Px):laid (GP k s l)=At k s (l.map Px.tx):=by
 unfold GP At;rw [MR,MS,Pt];by_cases h21:k=21
 ·rw [if_pos h21,if_pos h21];simp [bI,kB,qT,iX,oD]
 rw [if_neg h21,if_neg h21];by_cases h22:k=22
 ·rw [if_pos h22,if_pos h22];simp [bI,qT,oD]
 rw [if_neg h22,if_neg h22];by_cases h23:k=23
 ·rw [if_pos h23,if_pos h23];rw [cD,vO,oD]
 rw [if_neg h23,if_neg h23];by_cases h24:k=24
 ·rw [if_pos h24,if_pos h24];rw [cD,uH,oD]
 rw [if_neg h24,if_neg h24];by_cases h25:k=25
 ·rw [if_pos h25,if_pos h25];simp [bI,kB,iX,vO]
 rw [if_neg h25,if_neg h25];by_cases h26:k=26
 ·rw [if_pos h26,if_pos h26];simp [bI,kB,iX,uH]
 rw [if_neg h26,if_neg h26];by_cases h27:k=27
 ·rw [if_pos h27,if_pos h27];simp [bI,kB,iX,Px.tx]
 rw [if_neg h27,if_neg h27];by_cases h31:k=31
 ·rw [if_pos h31,if_pos h31];simp [bI,kB,iX,Px.tx]
 rw [if_neg h31,if_neg h31];by_cases h32:k=32
 ·rw [if_pos h32,if_pos h32];rfl
 rw [if_neg h32,if_neg h32];rfl
theorem Lb (k:Int) (s:ByteArray) (l:List Px):laid (stmtC k s l)=stmtT k s (l.map Px.tx):=by
 have br:∀ key x y,laid (lI key x y)=dN key x.tx y.tx:=by
  intro key x y;simp [lI,dN,bI,cD,kB,gM,iX,Px.tx]
 unfold stmtC stmtT;rw [MR,MS,Pt];split
 ·rw [cD,br];congr 1;show _=if (c2 l).has=true then _ else _
  split
  ·simp [bI,kB,iX,Px.tx]
  ·rfl
 split
 ·exact br _ _ _
 ·rw [cD,GQ,bI,gM];rfl
theorem Qe (t:Nd):(pcN t).tx=textN t:=by
 refine Nd.ind (P:=fun t=>(pcN t).tx=textN t) ?_ t;intro k o n s ns ks p ih;have e:(ks.map pcN).map Px.tx=ks.map textN:=by rw [List.map_map];exact List.map_congr_left ih
 rw [cI,mC];show Tx.mk _ _ _ _ _ _=_;rw [La,Lb,Av,e]
def sI (t:Nd):List Pc:=pY (t.kids.map pcN)
theorem GR (t:Nd):laid (sI t)=lL t:=by
 unfold sI lL;rw [CY,List.map_map];congr 1;exact List.map_congr_left fun x _=>Qe x
def jQ (c:UInt8):Bool:=!fN c.toNat&&(c != 61&&c != 47)
def sJ (t:Tok) (c:UInt8):Bool:=if t.kind=4 then true else if t.kind=5 then (c != 61&&c != 47) else !fN c.toNat
theorem tI {t:Tok} {c:UInt8} (h:jQ c=true):sJ t c=true:=by
 simp only [jQ,Bool.and_eq_true] at h;unfold sJ;split
 ·rfl
 split
 ·simp [h.2.1,h.2.2]
 ·exact h.1
def cM (p:UInt8→Bool) (l:List UInt8):Prop:=∀ c r,l=c::r→p c=true
theorem eZ (p:UInt8→Bool):cM p []:=by intro c r h;cases h
theorem lS {p:UInt8→Bool} {c:UInt8} {r:List UInt8} (h:p c=true):cM p (c::r):=by intro c' r' e;injection e with e1 e2;subst e1;exact h
theorem wU {p:Nat→Bool} {R:List UInt8} (hR:cM (fun c=>!p c.toNat) R):∀ x:List UInt8,(∀ b∈x,p b.toNat=true)→jW p (x++R)=x.length
 | [],_=>by
  cases R with
  | nil=>rfl
  | cons c r=>have:=hR c r rfl;simp at this;simp [jW,this]
 | b::x,h=>by
  have h1:=h b (by simp);have h2:=wU hR x (fun y hy=>h y (by simp [hy]));simp [jW,h1,h2]
theorem MU (x:List UInt8) (h:x∈sgnL) (R:List UInt8) (hR:cM (fun c=>c != 61&&c != 47) R) (k:Nat):cO (x++R) k=(⟨5,⟨x.toArray⟩,0,k⟩,k+x.length,0):=by
 have key:∀ x∈sgnL,(∀ k,cO x k=(⟨5,⟨x.toArray⟩,0,k⟩,k+x.length,0)):=by
  intro x hx k;simp only [sgnL,List.mem_cons,List.not_mem_nil,or_false] at hx;rcases hx with rfl | rfl | rfl | rfl | rfl | rfl | rfl | rfl | rfl | rfl | rfl | rfl | rfl | rfl | rfl | rfl | rfl | rfl | rfl | rfl | rfl | rfl | rfl | rfl | rfl<;>rfl
 cases R with
 | nil=>rw [List.append_nil];exact key x h k
 | cons c r=>
  have hc:=hR c r rfl;simp only [Bool.and_eq_true,bne_iff_ne] at hc;have h61:(61==c)=false:=by rw [beq_eq_false_iff_ne];exact fun e=>hc.1 e.symm
  have h61':(c==61)=false:=by rw [beq_eq_false_iff_ne];exact hc.1
  simp only [sgnL,List.mem_cons,List.not_mem_nil,or_false] at h;rcases h with rfl | rfl | rfl | rfl | rfl | rfl | rfl | rfl | rfl | rfl | rfl | rfl | rfl | rfl | rfl | rfl | rfl | rfl | rfl | rfl | rfl | rfl | rfl | rfl | rfl<;>
   first
   | rfl
   | simp [cO,nQ,signL,sgnL,gB,List.isPrefixOf,h61,bW,bX]
theorem vP {t:Tok} (hr:cP t=true) (h6:t.kind≠6) (R:List UInt8) (hR:cM (sJ t) R) (k:Nat):cO (eL t++R) k=(t.put k,k+(eL t).length,0):=by
 obtain⟨kd,x,n,p⟩:=t;simp only at h6;unfold cP at hr;simp only at hr;by_cases h3:kd=3
 ·subst h3;rw [if_pos rfl,Bool.and_eq_true,Bool.and_eq_true,decide_eq_true_iff,decide_eq_true_iff,beq_iff_eq] at hr;obtain⟨n0,n1,hx⟩:=hr;have hb:=Ox n0 n1;have hall:(digs n).all kS=true:=by
   unfold digs;rw [if_neg (by omega)];exact yK _ _
  have hd:∀ b∈digs n,bX b.toNat=true:=by
   intro b hb;have:=List.all_eq_true.1 hall b hb;simp [kS] at this;simp [bX];omega
  have ht:eL ⟨3,x,n,p⟩=digs n:=by unfold eL;rw [if_neg (by simp)];exact hx
  have hxb:x=⟨(digs n).toArray⟩:=by rw [← hx,rU]
  have hR':cM (fun c=>!bX c.toNat) R:=by
   intro c r e;have:=hR c r e;simp [sJ,fN] at this;simp [this.2]
  rw [ht];have hne:digs n≠[]:=by unfold digs;rw [if_neg (by omega)];exact MD _ _
  cases hdg:digs n with
  | nil=>exact absurd hdg hne
  | cons b y=>
   have hb1:=hd b (by rw [hdg];simp);have ho:cO (b::y++R) k=kM (b::y++R) k:=by
    show cO (b::(y++R)) k=kM (b::(y++R)) k;unfold cO;simp only;rw [if_neg (by rw [CG hb1];decide),if_pos hb1]
   rw [ho,← hdg];unfold kM;rw [wU hR' _ hd,Ej,hb,if_pos rfl];simp [Tok.put,hxb]
 ·rw [if_neg h3] at hr;by_cases hn:n=0
  ·subst hn;rw [if_pos rfl] at hr;by_cases h4:kd=4
   ·subst h4;simp at hr;have ht:eL ⟨4,x,0,p⟩=kV x.data.toList:=by unfold eL;rw [if_pos rfl]
    rw [ht];have ho:cO (kV x.data.toList++R) k=mR (kV x.data.toList++R) k:=rfl;rw [ho];unfold mR;rw [yW];simp only;rw [if_pos trivial,if_neg (by rw [cF];omega),rU];rfl
   ·have ht:eL ⟨kd,x,0,p⟩=x.data.toList:=by unfold eL;rw [if_neg h4]
    rw [ht];by_cases h5:kd=5
    ·subst h5;simp at hr;have hR':cM (fun c=>c != 61&&c != 47) R:=by
      intro c r e;have:=hR c r e;simpa [sJ] using this
     rw [MU _ hr R hR',rU];rfl
    have hR':cM (fun c=>!fN c.toNat) R:=by
     intro c r e;have:=hR c r e;simpa [sJ,h4,h5] using this
    have hw:∀ y:List UInt8,(∀ b∈y,fN b.toNat=true)→jY (y++R) k=if jG y then (⟨2,⟨y.toArray⟩,0,k⟩,k+y.length,0) else if nameB y then (⟨1,⟨y.toArray⟩,0,k⟩,k+y.length,0) else (Tok.zero,k,11):=by
     intro y hy;unfold jY;rw [wU hR' y hy,Ej]
    by_cases h1:kd=1
    ·subst h1;simp at hr;obtain⟨b,y,hx,hl,hwd⟩:=uE hr.1;rw [hx,Ek hl,← hx,hw _ hwd,hr.2,if_neg (by decide),hr.1,if_pos rfl,rU];rfl
    ·by_cases h2:kd=2
     ·subst h2;simp at hr;obtain⟨b,y,hx,hl,hwd⟩:=KC _ (List.contains_iff_mem.1 hr);rw [hx,Ek hl,← hx,hw _ hwd,hr,if_pos rfl,rU];rfl
     ·rw [if_neg h1,if_neg h2,if_neg h4,if_neg h5,if_neg h6] at hr;cases hr
  ·rw [if_neg hn] at hr;cases hr
def gN:List Pc→Prop
 | []=>True
 | .bl::r=>gN r
 | .tk t::r=>cP t=true∧t.kind≠6∧cM (sJ t) (laid r)∧gN r
theorem CZ {t:Tok} (hr:cP t=true) (h6:t.kind≠6):eL t≠[]:=by
 intro e;have h:=vP hr h6 [] (eZ _) 0;rw [e] at h;have:=congrArg (fun o:TokOut=>o.2.2) h;simp [cO] at this
theorem Lc {t:Tok} (hr:cP t=true) (h6:t.kind≠6):cM (fun c=>!iA c.toNat) (eL t):=by
 intro c r e;have h:=vP hr h6 [] (eZ _) 0;rw [List.append_nil,e] at h;cases hq:iA c.toNat with
 | false=>show (!iA c.toNat)=true;rw [hq];rfl
 | true=>have:=KD (y:=r) (k:=0) hq;rw [h] at this;cases this
theorem GS {t:Tok} (hr:cP t=true) (h6:t.kind≠6) {R:List UInt8} (hR:cM (sJ t) R):gA (eL t++R)=false:=by
 cases hq:gA (eL t++R) with
 | false=>rfl
 | true=>
  have h:=vP hr h6 R hR 0;cases hl:eL t++R with
  | nil=>rw [hl] at hq;cases hq
  | cons b y=>
   rw [hl] at h hq;cases y with
   | nil=>cases hq
   | cons c z=>
    simp [gA] at hq;have e1:b=47:=UInt8.toNat_inj.1 hq.1;have e2:c=47:=UInt8.toNat_inj.1 hq.2;subst e1 e2;have h1:cO (47::47::z) 0=(⟨5,⟨#[47]⟩,0,(0:Nat)⟩,1,0):=rfl;rw [h1] at h;have h2:(eL t).length=1:=by
     have:=congrArg (fun o:TokOut=>o.2.1) h;simp at this;omega
    have h5:t.kind=5:=by
     have:=congrArg (fun o:TokOut=>o.1.kind) h;simp [Tok.put] at this;omega
    obtain⟨a,ha⟩:=List.length_eq_one_iff.1 h2;rw [ha] at hl;simp at hl;have:=hR 47 z hl.2;simp [sJ,h5] at this
def kL:List Pc→List Pc
 | .bl::r=>kL r
 | l=>l
theorem BX:∀ (l:List Pc),gN l→lA false (laid l)=(laid l).length - (laid (kL l)).length∧(laid (kL l)).length≤(laid l).length∧(laid l).drop ((laid l).length - (laid (kL l)).length)=laid (kL l)
 | [],_=>by simp [kL,laid,lA]
 | .bl::r,h=>by
  obtain⟨h1,h2,h3⟩:=BX r h;have e:laid (.bl::r)=32::laid r:=by rw [bI];rfl
  have hs:gA (32::laid r)=false:=by cases laid r<;>simp [gA]
  have hsk:kL (.bl::r)=kL r:=rfl;rw [e,hsk];refine⟨?_,by simp;omega,?_⟩
  ·simp [lA,hs,h1,iA];omega
  ·rw [show (32::laid r).length - (laid (kL r)).length=((laid r).length - (laid (kL r)).length)+1 by simp;omega];simpa using h3
 | .tk t::r,h=>by
  obtain⟨hr,h6,hR,_⟩:=h;have hsk:kL (.tk t::r)=.tk t::r:=rfl;rw [hsk];refine⟨?_,Nat.le_refl _,by simp⟩;rw [Nat.sub_self,bI];show lA false (eL t++laid r)=0;have h1:=GS hr h6 hR;have h2:=Lc hr h6;have h3:=CZ hr h6;cases ht:eL t with
  | nil=>exact absurd ht h3
  | cons c y=>
   have hb:=h2 c y ht;rw [ht] at h1;simp only [List.cons_append] at h1 ⊢;simp only [Bool.not_eq_true'] at hb;simp [lA,h1,hb]
theorem oT:∀ l:List Pc,aK (kL l)=aK l
 | []=>rfl
 | .bl::r=>oT r
 | .tk _::_=>rfl
theorem uI:∀ {l:List Pc},gN l→gN (kL l)
 | [],h=>h
 | .bl::r,h=>uI (l:=r) h
 | .tk _::_,h=>h
theorem qY (x:Nd) (B:Nat) (w:World) (nv kv:Value) (hO:Hid (Ok B w)) (hN:Hid (lB B w x nv kv)) (hs:dO x=true) (hc:bH x≤1000000) :
  Calls Tryz.prog 18 #[.agg #[.int .i64 x.kind,.int .i64 x.op,.int .i64 x.num,.string x.str,nv,kv,.int .i64 x.pl]] w fun e w'=>
   e=.returned (.int .i64 (checkN x))∧Below w.heap.size w w':=by
 obtain⟨a1,q1,a2,q2,rfl,rfl⟩:=bY hN.out;have hal:=(Below.refl w.heap.size w).alloc (Nat.le_refl _) (.cells #[.int .i64 x.kind,.int .i64 x.op,.int .i64 x.num,.string x.str,.slice a1 x.names.length q1,.slice a2 x.kids.length q2,.int .i64 x.pl] 26);have hB:=hO.out.1;have AL:=aA hal;have N:=aA (iN (hal.mono hB) _ _ _ hN.out);have O:=aA (aR hO.out (hal.mono hB));have X:=aA (cH w x.kind x.op x.num x.str (.slice a1 x.names.length q1) (.slice a2 x.kids.length q2) x.pl);have HS:=aA hs;have H:=aA (show checkN x=if decide (12<fF x) then 13 else if rightN x 3 then 0 else 2 by unfold checkN;simp only [decide_eq_true_eq]);clear hal hN hO hs;go_enter Tryz.func18,Tryz.ntmps18;go_wp2_with fail;refine (Dl x B _ _ _ 12 (by simp;omega) N hc (by omega)).mono ?_;rintro e w1 ⟨rfl,b1⟩;have B1:=aA (aH AL.out (by simp) b1);have bq:Below B _ w1:=b1.mono (by simp;omega);have N1:=aA (iN bq _ _ _ N.out);have O1:=aA (aR O.out bq);obtain⟨c0,c1,c2,c3,c4,c5,c6⟩:=aJ (nR X.out b1);clear b1 bq N O X AL;generalize decide (12<fF x)=hb at *
 cases hb
 ·go_wp2_with fail;refine ((EV x).2.2 B _ _ _ O1 N1 HS.out hc).mono ?_;rintro e w2 ⟨rfl,b2⟩;have B2:=aA (aH B1.out (Nat.le_refl _) b2);clear b2 B1 N1 O1;generalize rightN x 3=rb at *
  cases rb
  ·go_wp2_with fail;go_ret;exact⟨by rw [H.out];rfl,B2.out⟩
  ·go_wp2_with fail;go_ret;exact⟨by rw [H.out];rfl,B2.out⟩
 ·go_wp2_with fail;go_ret;exact⟨by rw [H.out];rfl,B1.out⟩
theorem Lx {B B':Nat} {w:World} {v:Value} {l:List ByteArray} (hB:B≤B') (h:cA B v l w):cA B' v l w:=by
 rcases h with h | ⟨b,off,cap,h1,h2,h3,h4⟩
 ·exact .inl h
 ·exact .inr ⟨b,off,cap,h1,Nat.lt_of_lt_of_le h2 hB,h3,h4⟩
mutual
theorem Po {B B':Nat} {w:World} (hB:B≤B'):∀ (t:Nd) (nv kv:Value),lB B w t nv kv→lB B' w t nv kv
 | .mk _ _ _ _ ns ks _,nv,kv,h=>by
  rw [lB] at h ⊢;obtain⟨h1,h2⟩:=h;refine⟨Lx hB h1,?_⟩;rcases h2 with h2 | ⟨b,off,cap,e,hb,h3,h4⟩
  ·exact .inl h2
  ·exact .inr ⟨b,off,cap,e,Nat.lt_of_lt_of_le hb hB,AX hB ks off h3,h4⟩
theorem AX {B B':Nat} {w:World} {b:Nat} (hB:B≤B'):∀ (ks:List Nd) (off:Nat),jZ B w b ks off→jZ B' w b ks off
 | [],_,_=>by rw [jZ];trivial
 | .mk k op n s ns ks p::r,off,h=>by
  rw [jZ] at h ⊢;obtain⟨⟨nv,kv,h1,h2⟩,h3⟩:=h;exact⟨⟨nv,kv,h1,Po hB _ _ _ h2⟩,AX hB r _ h3⟩
end
theorem Ly {B B':Nat} {w:World} {kv:Value} {ks:List Nd} (hB:B≤B') (h:dA B w kv ks):dA B' w kv ks:=by
 rcases h with h2 | ⟨b,off,cap,e,hb,h3,h4⟩
 ·exact .inl h2
 ·exact .inr ⟨b,off,cap,e,Nat.lt_of_lt_of_le hb hB,AX hB ks off h3,h4⟩
theorem QH {B B':Nat} {w:World} (hB:B≤B') (hw:B'≤w.heap.size) (h:Ok B w):Ok B' w:=⟨hw,Nat.lt_of_lt_of_le h.2.1 hB,h.2.2⟩
end Go.Proofs.YtdnnmjhfidimcaaGreatDoor
