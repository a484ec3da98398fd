/- What text.Take answers, for any text. A tree's text as tokens and blanks. Pieces that stand well beside each other are read as their tokens. -/
import Derived.Test.YtdnnmjhfidimcaaGreatDoorJoint7
import Derived.Deep.RegionWith
import Derived.Test.YtdnnmjhfidimcaaGreatDoorJoint2
import Derived.Test.YtdnnmjhfidimcaaGreatDoorJoint4
namespace Go.Proofs.YtdnnmjhfidimcaaGreatDoor
set_option maxHeartbeats 1600000
set_option maxRecDepth 100000
open Go.RowKit
theorem MJ {f:Nat} {l acc:List UInt8} {k:Nat} {out:List UInt8×Nat×Int} (h:fE f l k acc=out) (hf:l.length<f) (hl:lookN l=34):out=(acc,k+1,0):=by
 match f,l with
 | f+1,[]=>simp [lookN] at hl
 | f+1,c::r=>rw [← h,fE,if_pos (by exact hl)]
theorem OB {f:Nat} {l acc:List UInt8} {k n:Nat} {out:List UInt8×Nat×Int} (h:fE f l k acc=out) (hf:l.length<f) (hl:lookN l≠34) (ho:iM l=(none,n)):out=([],k+n,11):=by
 match f,l with
 | f+1,[]=>simp [iM] at ho;rw [← h,fE,← ho];rfl
 | f+1,c::r=>rw [← h,fE,if_neg (by exact hl),ho]
theorem OC {f:Nat} {l acc:List UInt8} {k n:Nat} {b:UInt8} {out:List UInt8×Nat×Int} (h:fE f l k acc=out) (hf:l.length<f) (ho:iM l=(some b,n)) :
  ∃ f',fE f' (l.drop n) (k+n) (acc++[b])=out∧(l.drop n).length<f'∧1≤n∧n≤l.length:=by
 have hn:=Bu ho;have hle:=uU l;rw [ho] at hle;match f,l with
 | f+1,[]=>simp [iM] at ho
 | f+1,c::r=>
  rw [rJ ho] at h;refine⟨f,h,?_,hn,hle⟩;simp only [List.length_drop];simp at hf hle ⊢;omega
def atOf (b:Nat) (w:World):Nat:=match w.cell? ⟨b,3,none⟩ with | some (.int _ n)=>n.toNat | _=>0
theorem Rdr.atOf {s:ByteArray} {B b k:Nat} {acc:List UInt8} {w:World} (h:Rdr s B b k acc w):atOf b w=k:=by
 unfold YtdnnmjhfidimcaaGreatDoor.atOf;rw [h.at];simp
theorem Ey (s:ByteArray) (hs:s.size≤1000000) (B b:Nat) (w:World) (h:Rdr s B b 0 [] w) :
  Calls Tryz.prog 156 #[.pointer (some ⟨b,0,none⟩)] w fun e w'=>∃ (k:Nat) (acc:List UInt8),Rdr s B b k acc w'∧Below B w w'∧
   ((e=.returned (.bool true)∧takeOut s.data.toList=(acc,k,0))∨(e=.returned (.bool false)∧takeOut s.data.toList=([],k,11))):=by
 have HR:=aA h;clear h;by_cases h34:lookN (s.data.toList.drop 0)=34
 ·have H34:=aA h34;have hpos:0<s.size:=by
   rcases Nat.lt_or_ge 0 s.size with h' | h'
   ·exact h'
   ·rw [hX s 0 h'] at h34;simp [lookN] at h34
  have hd:=dU s 0 hpos;have hout:takeOut s.data.toList=fE ((s.data.toList.drop 1).length+1) (s.data.toList.drop 1) 1 []:=by
   rw [List.drop_zero] at hd h34;conv=>lhs;rw [hd]
   rw [hd] at h34;simp only [takeOut];rw [if_pos (by exact h34)]
  have HO:=aA hout;clear h34 hd hout;go_enter Tryz.func156,Tryz.ntmps156;go_wp2_with fail;refine (pV s hs B b 0 [] 34 (by omega) _ HR.out H34.out).mono ?_;rintro e w1 ⟨rfl,h1,b1⟩;have H1:=aA h1;have B1:=aA b1;clear h1 b1;go_wp2_with fail;go_loopw [] (fun wr=>∃ (k f:Nat) (acc:List UInt8),k≤s.size∧acc.length≤k∧fE f (s.data.toList.drop k) k acc=takeOut s.data.toList∧(s.data.toList.drop k).length<f∧Rdr s B b k acc wr∧Below B w wr) (fun wr=>s.size - atOf b wr)
  case atStart=>exact⟨1,_,[],hpos,by simp,HO.out.symm,by omega,H1.out,B1.out⟩
  case round=>
   clear H1 B1 HO HR H34;obtain⟨k,f,acc,hk,hak,hgo,hf,hR,hB⟩:=hrel;have HR:=aA hR;have HB:=aA hB;have HG:=aA hgo;have HF:=aA hf;clear hR hB hgo hf;by_cases h34:lookN (s.data.toList.drop k)=34
   ·have HO:=aA (MJ HG.out HF.out h34);have H34:=aA h34;clear h34;go_wp2_with fail;refine (pV s hs B b k acc 34 hk _ HR.out H34.out).mono ?_;rintro e w2 ⟨rfl,h2,b2⟩;have H2:=aA h2;have B2:=aA (HB.out.trans b2);clear h2 b2;go_wp2;go_ret;exact⟨k+1,acc,H2.out,B2.out,Or.inl ⟨rfl,HO.out⟩⟩
   ·have H34:=aA h34;cases hone:iM (s.data.toList.drop k) with
    | mk o n=>
     have HOne:=aA hone;clear hone;cases o with
     | none=>
      have HO:=aA (OB HG.out HF.out h34 HOne.out);clear h34;go_wp2_with fail;refine (mA s B b k acc 34 hk _ HR.out H34.out).mono ?_;rintro e w2 ⟨rfl,h2,b2⟩;have H2:=aA h2;have B2:=aA (HB.out.trans b2);clear h2 b2;go_wp2_with fail;refine (BP s hs B b k acc hk (by omega) _ H2.out none n HOne.out).mono ?_;rintro e w3 ⟨rfl,h3,b3⟩;have H3:=aA h3;have B3:=aA (B2.out.trans b3);clear h3 b3;go_wp2;go_ret;exact⟨k+n,acc++none.toList,H3.out,B3.out,Or.inr ⟨rfl,HO.out⟩⟩
     | some c=>
      obtain⟨f',hg',hf',hn1,hn2⟩:=OC HG.out HF.out HOne.out;have HG':=aA hg';have HF':=aA hf';rw [List.length_drop,cF] at hn2;clear h34 hg' hf';go_wp2_with fail;refine (mA s B b k acc 34 hk _ HR.out H34.out).mono ?_;rintro e w2 ⟨rfl,h2,b2⟩;have H2:=aA h2;have B2:=aA (HB.out.trans b2);clear h2 b2;go_wp2_with fail;refine (BP s hs B b k acc hk (by omega) _ H2.out (some c) n HOne.out).mono ?_;rintro e w3 ⟨rfl,h3,b3⟩;have H3:=aA h3;have B3:=aA (B2.out.trans b3);clear h3 b3;go_wp2;refine⟨⟨k+n,f',acc++[c],by omega,by simp;omega,by rw [← List.drop_drop];exact HG'.out,by rw [← List.drop_drop];exact HF'.out,H3.out,B3.out⟩,?_⟩;rw [H3.out.atOf,HR.out.atOf];omega
 ·have hout:takeOut s.data.toList=([],0,11):=by
   rw [List.drop_zero] at h34;cases hd:s.data.toList with
   | nil=>rfl
   | cons c r=>rw [hd] at h34;simp only [takeOut];rw [if_neg (by exact h34)]
  have HO:=aA hout;have H34:=aA h34;clear hout h34;go_enter Tryz.func156,Tryz.ntmps156;go_wp2_with fail;refine (mA s B b 0 [] 34 (by omega) _ HR.out H34.out).mono ?_;rintro e w1 ⟨rfl,h1,b1⟩;have H1:=aA h1;have B1:=aA b1;clear h1 b1;go_wp2;go_ret;exact⟨0,[],H1.out,B1.out,Or.inr ⟨rfl,HO.out⟩⟩
theorem uF (s:ByteArray) (hs:s.size≤1000000) (w:World) :
  Calls Tryz.prog 129 #[.string s] w fun e w'=>
   e=.returned (.tuple #[.string ⟨(takeOut s.data.toList).1.toArray⟩,.int .i64 ((takeOut s.data.toList).2.1:Int),.int .i64 (takeOut s.data.toList).2.2])∧Below w.heap.size w w':=by
 have hnew:Rdr s w.heap.size w.heap.size 0 [] (w.alloc (.cells #[.pointer none,.slice none 0 0,.string s,.int .i64 0] 137)):=CI 137 [.string s,.int .i64 0] w _ rfl;have hb0:Below w.heap.size w (w.alloc (.cells #[.pointer none,.slice none 0 0,.string s,.int .i64 0] 137)):=(Below.refl _ w).alloc (Nat.le_refl _) _;have H0:=aA hnew;have B0:=aA hb0;clear hnew hb0;go_enter Tryz.func129,Tryz.ntmps129;go_wp2_with fail;refine (Ey s hs _ _ _ H0.out).mono ?_;rintro e w1 ⟨k,acc,h1,b1,(⟨rfl,ho⟩ | ⟨rfl,ho⟩)⟩
 ·have H1:=aA h1;have B1:=aA (B0.out.trans b1);have ca:w1.drew.cell? ⟨w.heap.size,3,none⟩=some (.int .i64 (k:Int)):=h1.drew.at;have HO:=aA ho;have HD:=aA h1.drew;clear h1 b1 ho;go_wp2_with fail;go_region_with (go_at_call 28;refine (qS _ _ _ _ _ _ HD.out).mono ?_;rintro e w2 ⟨rfl,b2,hc⟩;have c2:w2.cell? ⟨w.heap.size,3,none⟩=some (.int .i64 (k:Int)):=(hc 3).trans ca;clear hc)
  all_goals (go_wp2;go_ret3;exact⟨by rw [HO.out];rfl,B1.out.drew.trans b2⟩)
 ·have H1:=aA h1;have B1:=aA (B0.out.trans b1);have ca:w1.drew.cell? ⟨w.heap.size,3,none⟩=some (.int .i64 (k:Int)):=h1.drew.at;have HO:=aA ho;clear h1 b1 ho;go_wp2_with fail;go_region;all_goals (go_wp2;go_ret3;exact⟨by rw [HO.out];rfl,B1.out.drew⟩)
inductive Pc where
 | bl
 | tk (t:Tok)
def Pc.text:Pc→List UInt8
 | .bl=>[32]
 | .tk t=>eL t
def laid (l:List Pc):List UInt8:=l.flatMap Pc.text
def aK:List Pc→List Tok
 | []=>[]
 | .bl::r=>aK r
 | .tk t::r=>t::aK r
theorem mD:laid []=[]:=rfl
theorem bI (p:Pc) (r:List Pc):laid (p::r)=p.text++laid r:=by simp [laid]
theorem cD (a b:List Pc):laid (a++b)=laid a++laid b:=by simp [laid]
theorem aZ:∀ a b:List Pc,aK (a++b)=aK a++aK b
 | [],b=>rfl
 | .bl::r,b=>by show aK (r++b)=aK r++aK b;exact aZ r b
 | .tk t::r,b=>by show t::aK (r++b)=t::aK r++aK b;rw [aZ r b];rfl
def rH (x:List UInt8):Tok:=⟨2,⟨x.toArray⟩,0,0⟩
def cY (x:List UInt8):Tok:=⟨5,⟨x.toArray⟩,0,0⟩
def CW (s:ByteArray):Tok:=⟨1,s,0,0⟩
def Bm (s:ByteArray):Tok:=⟨if jG s.data.toList then 2 else 1,s,0,0⟩
def kw (x:List UInt8):Pc:=.tk (rH x)
def sg (x:List UInt8):Pc:=.tk (cY x)
def nm (s:ByteArray):Pc:=.tk (CW s)
def pp (s:ByteArray):Pc:=.tk (Bm s)
theorem kB (x:List UInt8):(kw x).text=x:=by simp [kw,rH,Pc.text,eL]
theorem gM (x:List UInt8):(sg x).text=x:=by simp [sg,cY,Pc.text,eL]
theorem qT (s:ByteArray):(nm s).text=s.data.toList:=by simp [nm,CW,Pc.text,eL]
theorem yO (s:ByteArray):(pp s).text=s.data.toList:=by
 unfold pp Bm Pc.text eL;cases jG s.data.toList<;>rfl
theorem iX:Pc.bl.text=[32]:=rfl
structure Px where
 kind:Int
 rank:Int
 e:List Pc
 s:List Pc
 b:List Pc
 has:Bool
def Px.tx (x:Px):Tx:=⟨x.kind,x.rank,laid x.e,laid x.s,laid x.b,x.has⟩
def Px.none:Px:=⟨0,0,[],[],[],false⟩
def MQ (k n:Int) (s:ByteArray):Pc:=
 if k=1 then kw [110,117,108,108] else if k=6 then kw [116,104,105,115] else if k=2 then (if n=0 then kw [102,97,108,115,101] else kw [116,114,117,101])
 else if k=3 then .tk ⟨3,⟨(digs n).toArray⟩,n,0⟩ else if k=4 then .tk ⟨4,s,0,0⟩ else nm s
def iG (x:Px) (least:Int):List Pc:=if least≤x.rank then x.e else sg [40]::(x.e++[sg [41]])
def fJ (l:List Px):List Pc:=l.flatMap fun x=>sg [44] :: .bl::x.e
def mM:List Px→List Pc
 | []=>[]
 | x::r=>x.e++fJ r
def kU (l:List Px):List Pc:=sg [40]::(mM l++[sg [41]])
def sF (s:ByteArray) (x:Px):List Pc:=pp s::sg [58] :: .bl::x.e
def fK:List ByteArray→List Px→List Pc
 | s::ns,x::r=>sg [44] :: .bl::(sF s x++fK ns r)
 | _,_=>[]
def wS:List ByteArray→List Px→List Pc
 | s::ns,x::r=>sg [123]::(sF s x++fK ns r++[sg [125]])
 | _,_=>[sg [123],sg [125]]
def mE (ns:List ByteArray):List Pc:=ns.flatMap fun x=>[sg [44],.bl,nm x]
def nO:List ByteArray→List Pc
 | []=>[]
 | s::r=>nm s::mE r
def fC (l:List Px):List Pc:=l.flatMap fun x=>.bl::x.s
def blockC (l:List Px):List Pc:=sg [123]::(fC l++(if l.isEmpty then [sg [125]] else [.bl,sg [125]]))
def pY:List Px→List Pc
 | []=>[]
 | x::r=>x.s++fC r
def sG (x:Px) (s:ByteArray):List Pc:=iG x 8++[sg [46],pp s]
def mF (x y:Px):List Pc:=iG x 8++(sg [91]::(y.e++[sg [93]]))
def gV (x:Px):List Pc:=.bl::sg [61] :: .bl::x.e
def lE (r:Int) (g:List UInt8) (x y:Px):List Pc:=iG x r++(.bl::sg g :: .bl::iG y (r+1))
def c0 (l:List Px):Px:=l.getD 0 Px.none
def c1 (l:List Px):Px:=l.getD 1 Px.none
def c2 (l:List Px):Px:=l.getD 2 Px.none
def exprC (k o n:Int) (s:ByteArray) (ns:List ByteArray) (l:List Px):List Pc:=
 if k=7 then wS ns l
 else if k=8 then kw [102,110]::sg [40]::(nO ns++(sg [41] :: .bl::blockC l))
 else if k=9 then sg [if o=1 then 45 else 33]::iG (c0 l) 7
 else if k=10 then lE (rankT 10 o) (signT o) (c0 l) (c1 l)
 else if k=11 then lE 2 [38,38] (c0 l) (c1 l)
 else if k=12 then lE 1 [124,124] (c0 l) (c1 l)
 else if k=13 then sG (c0 l) s
 else if k=14 then mF (c0 l) (c1 l)
 else if k=15 then iG (c0 l) (if (c0 l).kind=13 then 9 else 8)++kU l.tail
 else if k=16 then sG (c0 l) s++kU l.tail
 else if k=17 then kw (builtT o).1::kU l
 else [MQ k n s]
def GP (k:Int) (s:ByteArray) (l:List Px):List Pc:=
 if k=21 then kw [108,101,116] :: .bl::nm s::gV (c0 l)
 else if k=22 then nm s::gV (c0 l)
 else if k=23 then sG (c0 l) s++gV (c1 l)
 else if k=24 then mF (c0 l) (c1 l)++gV (c2 l)
 else if k=25 then kw [100,101,108,101,116,101] :: .bl::sG (c0 l) s
 else if k=26 then kw [100,101,108,101,116,101] :: .bl::mF (c0 l) (c1 l)
 else if k=27 then kw [112,114,105,110,116] :: .bl::(c0 l).e
 else if k=31 then kw [114,101,116,117,114,110] :: .bl::(c0 l).e
 else if k=32 then (c0 l).e else []
def lI (key:List UInt8) (x y:Px):List Pc:=kw key :: .bl::sg [40]::(x.e++(sg [41] :: .bl::y.b))
def stmtC (k:Int) (s:ByteArray) (l:List Px):List Pc:=
 if k=28 then lI [105,102] (c0 l) (c1 l)++(if (c2 l).has then .bl::kw [101,108,115,101] :: .bl::(c2 l).b else [])
 else if k=30 then lI [119,104,105,108,101] (c0 l) (c1 l)
 else GP k s l++[sg [59]]
mutual
def pcN:Nd→Px
 | .mk k o n s ns ks _=>⟨k,rankT k o,exprC k o n s ns (Qd ks),stmtC k s (Qd ks),blockC (Qd ks),!ks.isEmpty⟩
def Qd:List Nd→List Px
 | []=>[]
 | x::r=>pcN x::Qd r
end
theorem II:∀ l:List Nd,Qd l=l.map pcN
 | []=>by rw [Qd];rfl
 | x::r=>by rw [Qd,II r];rfl
theorem cI (k o n:Int) (s:ByteArray) (ns:List ByteArray) (ks:List Nd) (p:Int) :
  pcN (.mk k o n s ns ks p)=⟨k,rankT k o,exprC k o n s ns (ks.map pcN),stmtC k s (ks.map pcN),blockC (ks.map pcN),!ks.isEmpty⟩:=by
 rw [pcN,II]
theorem CX (l:List Px) (i:Nat):(l.map Px.tx).getD i Tx.none=(l.getD i Px.none).tx:=by
 rw [List.getD_eq_getElem?_getD,List.getD_eq_getElem?_getD,List.getElem?_map];cases l[i]?<;>rfl
theorem MR (l:List Px):rG (l.map Px.tx)=(c0 l).tx:=CX l 0
theorem MS (l:List Px):Bl (l.map Px.tx)=(c1 l).tx:=CX l 1
theorem Pt (l:List Px):MP (l.map Px.tx)=(c2 l).tx:=CX l 2
theorem KX (k n:Int) (s:ByteArray):(MQ k n s).text=iJ k n s:=by
 unfold MQ iJ;split
 ·rw [kB]
 split
 ·rw [kB]
 split
 ·split<;>rw [kB]
 split
 ·simp [Pc.text,eL]
 split
 ·simp [Pc.text,eL]
 ·rw [qT]
theorem mW (x:Px) (r:Int):laid (iG x r)=cB x.tx r:=by
 unfold iG cB;show laid (if r≤x.rank then x.e else _)=if r≤x.rank then laid x.e else _
 split
 ·rfl
 ·simp [bI,cD,gM,mD,Px.tx]
theorem xQ:∀ l:List Px,laid (fJ l)=nD (l.map Px.tx)
 | []=>rfl
 | x::r=>by
  have:=xQ r;simp only [fJ,nD,List.flatMap_cons,List.map_cons,cD,bI,gM,iX] at *
  rw [this];simp [Px.tx]
theorem KY (l:List Px):laid (mM l)=jJ (l.map Px.tx):=by
 cases l with
 | nil=>rfl
 | cons x r=>rw [mM,List.map_cons,jJ,cD,xQ];rfl
theorem wT (l:List Px):laid (kU l)=iT (l.map Px.tx):=by
 unfold kU iT;rw [bI,cD,KY,bI,gM,gM];rfl
theorem xR:∀ (ns:List ByteArray) (l:List Px),laid (fK ns l)=gZ ns (l.map Px.tx)
 | [],l=>by cases l<;>rfl
 | s::ns,[]=>rfl
 | s::ns,x::r=>by
  rw [fK,List.map_cons,gZ,← xR ns r];simp [bI,cD,gM,yO,iX,sF,mV,Px.tx]
theorem MT (ns:List ByteArray) (l:List Px):laid (wS ns l)=oZ ns (l.map Px.tx):=by
 cases ns with
 | nil=>cases l<;>simp [wS,oZ,bI,gM,mD]
 | cons s ns=>
  cases l with
  | nil=>simp [wS,oZ,bI,gM,mD]
  | cons x r=>
   rw [wS,List.map_cons,oZ,← xR ns r];simp [bI,cD,gM,yO,iX,sF,mV,Px.tx,mD]
theorem KZ (ns:List ByteArray):laid (nO ns)=nN ns:=by
 cases ns with
 | nil=>rfl
 | cons s r=>
  rw [nO,nN,bI,qT];congr 1;induction r with
  | nil=>rfl
  | cons y r ih=>simp only [mE,List.flatMap_cons,cD,bI,gM,iX,qT] at *;rw [ih];simp [mD]
theorem sH:∀ l:List Px,laid (fC l)=fI (l.map Px.tx)
 | []=>rfl
 | x::r=>by
  have:=sH r;simp only [fC,fI,List.flatMap_cons,List.map_cons,cD,bI,iX] at *
  rw [this];simp [Px.tx]
theorem Av (l:List Px):laid (blockC l)=blockT (l.map Px.tx):=by
 unfold blockC blockT;rw [bI,cD,sH,gM];cases l<;>simp [bI,mD,gM,iX]
theorem CY (l:List Px):laid (pY l)=dS (l.map Px.tx):=by
 cases l with
 | nil=>rfl
 | cons x r=>rw [pY,List.map_cons,dS,cD,sH];rfl
theorem vO (x:Px) (s:ByteArray):laid (sG x s)=lD x.tx s:=by
 unfold sG lD;rw [cD,mW];simp [bI,mD,gM,yO]
theorem uH (x y:Px):laid (mF x y)=gT x.tx y.tx:=by
 unfold mF gT;rw [cD,mW];simp [bI,mD,cD,gM,Px.tx]
theorem oD (x:Px):laid (gV x)=cZ x.tx:=by
 unfold gV cZ;simp [bI,gM,iX,Px.tx]
theorem qU (r:Int) (g:List UInt8) (x y:Px):laid (lE r g x y)=fH r g x.tx y.tx:=by
 unfold lE fH;rw [cD,mW];simp [bI,mW,gM,iX]
theorem La (k o n:Int) (s:ByteArray) (ns:List ByteArray) (l:List Px):laid (exprC k o n s ns l)=exprT k o n s ns (l.map Px.tx):=by
 unfold exprC exprT;rw [MR,MS];by_cases h7:k=7
 ·rw [if_pos h7,if_pos h7];exact MT ns l
 rw [if_neg h7,if_neg h7];by_cases h8:k=8
 ·rw [if_pos h8,if_pos h8];simp [bI,cD,kB,gM,iX,KZ,Av]
 rw [if_neg h8,if_neg h8];by_cases h9:k=9
 ·rw [if_pos h9,if_pos h9];rw [bI,mW,gM];rfl
 rw [if_neg h9,if_neg h9];by_cases h10:k=10
 ·rw [if_pos h10,if_pos h10];exact qU _ _ _ _
 rw [if_neg h10,if_neg h10];by_cases h11:k=11
 ·rw [if_pos h11,if_pos h11];exact qU _ _ _ _
 rw [if_neg h11,if_neg h11];by_cases h12:k=12
 ·rw [if_pos h12,if_pos h12];exact qU _ _ _ _
 rw [if_neg h12,if_neg h12];by_cases h13:k=13
 ·rw [if_pos h13,if_pos h13];exact vO _ _
 rw [if_neg h13,if_neg h13];by_cases h14:k=14
 ·rw [if_pos h14,if_pos h14];exact uH _ _
 rw [if_neg h14,if_neg h14];by_cases h15:k=15
 ·rw [if_pos h15,if_pos h15];rw [cD,mW,wT,List.map_tail];rfl
 rw [if_neg h15,if_neg h15];by_cases h16:k=16
 ·rw [if_pos h16,if_pos h16];rw [cD,vO,wT,List.map_tail]
 rw [if_neg h16,if_neg h16];by_cases h17:k=17
 ·rw [if_pos h17,if_pos h17];rw [bI,wT,kB]
 rw [if_neg h17,if_neg h17];rw [bI,KX,mD,List.append_nil]
theorem GQ (k:Int) (s:ByteArray) (l:List Px):laid (GP k s l)=At k s (l.map Px.tx):=by
 unfold GP At;rw [MR,MS,Pt];by_cases h21:k=21
 ·rw [if_pos h21,if_pos h21];simp [bI,kB,qT,iX,oD]
 rw [if_neg h21,if_neg h21];by_cases h22:k=22
 ·rw [if_pos h22,if_pos h22];simp [bI,qT,oD]
 rw [if_neg h22,if_neg h22];by_cases h23:k=23
 ·rw [if_pos h23,if_pos h23];rw [cD,vO,oD]
 rw [if_neg h23,if_neg h23];by_cases h24:k=24
 ·rw [if_pos h24,if_pos h24];rw [cD,uH,oD]
 rw [if_neg h24,if_neg h24];by_cases h25:k=25
 ·rw [if_pos h25,if_pos h25];simp [bI,kB,iX,vO]
 rw [if_neg h25,if_neg h25];by_cases h26:k=26
 ·rw [if_pos h26,if_pos h26];simp [bI,kB,iX,uH]
 rw [if_neg h26,if_neg h26];by_cases h27:k=27
 ·rw [if_pos h27,if_pos h27];simp [bI,kB,iX,Px.tx]
 rw [if_neg h27,if_neg h27];by_cases h31:k=31
 ·rw [if_pos h31,if_pos h31];simp [bI,kB,iX,Px.tx]
 rw [if_neg h31,if_neg h31];by_cases h32:k=32
 ·rw [if_pos h32,if_pos h32];rfl
 rw [if_neg h32,if_neg h32];rfl
theorem Lb (k:Int) (s:ByteArray) (l:List Px):laid (stmtC k s l)=stmtT k s (l.map Px.tx):=by
 have br:∀ key x y,laid (lI key x y)=dN key x.tx y.tx:=by
  intro key x y;simp [lI,dN,bI,cD,kB,gM,iX,Px.tx]
 unfold stmtC stmtT;rw [MR,MS,Pt];split
 ·rw [cD,br];congr 1;show _=if (c2 l).has=true then _ else _
  split
  ·simp [bI,kB,iX,Px.tx]
  ·rfl
 split
 ·exact br _ _ _
 ·rw [cD,GQ,bI,gM];rfl
theorem Qe (t:Nd):(pcN t).tx=textN t:=by
 refine Nd.ind (P:=fun t=>(pcN t).tx=textN t) ?_ t;intro k o n s ns ks p ih;have e:(ks.map pcN).map Px.tx=ks.map textN:=by rw [List.map_map];exact List.map_congr_left ih
 rw [cI,mC];show Tx.mk _ _ _ _ _ _=_;rw [La,Lb,Av,e]
def sI (t:Nd):List Pc:=pY (t.kids.map pcN)
theorem GR (t:Nd):laid (sI t)=lL t:=by
 unfold sI lL;rw [CY,List.map_map];congr 1;exact List.map_congr_left fun x _=>Qe x
def jQ (c:UInt8):Bool:=!fN c.toNat&&(c != 61&&c != 47)
def sJ (t:Tok) (c:UInt8):Bool:=if t.kind=4 then true else if t.kind=5 then (c != 61&&c != 47) else !fN c.toNat
theorem tI {t:Tok} {c:UInt8} (h:jQ c=true):sJ t c=true:=by
 simp only [jQ,Bool.and_eq_true] at h;unfold sJ;split
 ·rfl
 split
 ·simp [h.2.1,h.2.2]
 ·exact h.1
def cM (p:UInt8→Bool) (l:List UInt8):Prop:=∀ c r,l=c::r→p c=true
theorem eZ (p:UInt8→Bool):cM p []:=by intro c r h;cases h
theorem lS {p:UInt8→Bool} {c:UInt8} {r:List UInt8} (h:p c=true):cM p (c::r):=by intro c' r' e;injection e with e1 e2;subst e1;exact h
theorem wU {p:Nat→Bool} {R:List UInt8} (hR:cM (fun c=>!p c.toNat) R):∀ x:List UInt8,(∀ b∈x,p b.toNat=true)→jW p (x++R)=x.length
 | [],_=>by
  cases R with
  | nil=>rfl
  | cons c r=>have:=hR c r rfl;simp at this;simp [jW,this]
 | b::x,h=>by
  have h1:=h b (by simp);have h2:=wU hR x (fun y hy=>h y (by simp [hy]));simp [jW,h1,h2]
theorem MU (x:List UInt8) (h:x∈sgnL) (R:List UInt8) (hR:cM (fun c=>c != 61&&c != 47) R) (k:Nat):cO (x++R) k=(⟨5,⟨x.toArray⟩,0,k⟩,k+x.length,0):=by
 have key:∀ x∈sgnL,(∀ k,cO x k=(⟨5,⟨x.toArray⟩,0,k⟩,k+x.length,0)):=by
  intro x hx k;simp only [sgnL,List.mem_cons,List.not_mem_nil,or_false] at hx;rcases hx with rfl | rfl | rfl | rfl | rfl | rfl | rfl | rfl | rfl | rfl | rfl | rfl | rfl | rfl | rfl | rfl | rfl | rfl | rfl | rfl | rfl | rfl | rfl | rfl | rfl<;>rfl
 cases R with
 | nil=>rw [List.append_nil];exact key x h k
 | cons c r=>
  have hc:=hR c r rfl;simp only [Bool.and_eq_true,bne_iff_ne] at hc;have h61:(61==c)=false:=by rw [beq_eq_false_iff_ne];exact fun e=>hc.1 e.symm
  have h61':(c==61)=false:=by rw [beq_eq_false_iff_ne];exact hc.1
  simp only [sgnL,List.mem_cons,List.not_mem_nil,or_false] at h;rcases h with rfl | rfl | rfl | rfl | rfl | rfl | rfl | rfl | rfl | rfl | rfl | rfl | rfl | rfl | rfl | rfl | rfl | rfl | rfl | rfl | rfl | rfl | rfl | rfl | rfl<;>
   first
   | rfl
   | simp [cO,nQ,signL,sgnL,gB,List.isPrefixOf,h61,bW,bX]
theorem vP {t:Tok} (hr:cP t=true) (h6:t.kind≠6) (R:List UInt8) (hR:cM (sJ t) R) (k:Nat):cO (eL t++R) k=(t.put k,k+(eL t).length,0):=by
 obtain⟨kd,x,n,p⟩:=t;simp only at h6;unfold cP at hr;simp only at hr;by_cases h3:kd=3
 ·subst h3;rw [if_pos rfl,Bool.and_eq_true,Bool.and_eq_true,decide_eq_true_iff,decide_eq_true_iff,beq_iff_eq] at hr;obtain⟨n0,n1,hx⟩:=hr;have hb:=Ox n0 n1;have hall:(digs n).all kS=true:=by
   unfold digs;rw [if_neg (by omega)];exact yK _ _
  have hd:∀ b∈digs n,bX b.toNat=true:=by
   intro b hb;have:=List.all_eq_true.1 hall b hb;simp [kS] at this;simp [bX];omega
  have ht:eL ⟨3,x,n,p⟩=digs n:=by unfold eL;rw [if_neg (by simp)];exact hx
  have hxb:x=⟨(digs n).toArray⟩:=by rw [← hx,rU]
  have hR':cM (fun c=>!bX c.toNat) R:=by
   intro c r e;have:=hR c r e;simp [sJ,fN] at this;simp [this.2]
  rw [ht];have hne:digs n≠[]:=by unfold digs;rw [if_neg (by omega)];exact MD _ _
  cases hdg:digs n with
  | nil=>exact absurd hdg hne
  | cons b y=>
   have hb1:=hd b (by rw [hdg];simp);have ho:cO (b::y++R) k=kM (b::y++R) k:=by
    show cO (b::(y++R)) k=kM (b::(y++R)) k;unfold cO;simp only;rw [if_neg (by rw [CG hb1];decide),if_pos hb1]
   rw [ho,← hdg];unfold kM;rw [wU hR' _ hd,Ej,hb,if_pos rfl];simp [Tok.put,hxb]
 ·rw [if_neg h3] at hr;by_cases hn:n=0
  ·subst hn;rw [if_pos rfl] at hr;by_cases h4:kd=4
   ·subst h4;simp at hr;have ht:eL ⟨4,x,0,p⟩=kV x.data.toList:=by unfold eL;rw [if_pos rfl]
    rw [ht];have ho:cO (kV x.data.toList++R) k=mR (kV x.data.toList++R) k:=rfl;rw [ho];unfold mR;rw [yW];simp only;rw [if_pos trivial,if_neg (by rw [cF];omega),rU];rfl
   ·have ht:eL ⟨kd,x,0,p⟩=x.data.toList:=by unfold eL;rw [if_neg h4]
    rw [ht];by_cases h5:kd=5
    ·subst h5;simp at hr;have hR':cM (fun c=>c != 61&&c != 47) R:=by
      intro c r e;have:=hR c r e;simpa [sJ] using this
     rw [MU _ hr R hR',rU];rfl
    have hR':cM (fun c=>!fN c.toNat) R:=by
     intro c r e;have:=hR c r e;simpa [sJ,h4,h5] using this
    have hw:∀ y:List UInt8,(∀ b∈y,fN b.toNat=true)→jY (y++R) k=if jG y then (⟨2,⟨y.toArray⟩,0,k⟩,k+y.length,0) else if nameB y then (⟨1,⟨y.toArray⟩,0,k⟩,k+y.length,0) else (Tok.zero,k,11):=by
     intro y hy;unfold jY;rw [wU hR' y hy,Ej]
    by_cases h1:kd=1
    ·subst h1;simp at hr;obtain⟨b,y,hx,hl,hwd⟩:=uE hr.1;rw [hx,Ek hl,← hx,hw _ hwd,hr.2,if_neg (by decide),hr.1,if_pos rfl,rU];rfl
    ·by_cases h2:kd=2
     ·subst h2;simp at hr;obtain⟨b,y,hx,hl,hwd⟩:=KC _ (List.contains_iff_mem.1 hr);rw [hx,Ek hl,← hx,hw _ hwd,hr,if_pos rfl,rU];rfl
     ·rw [if_neg h1,if_neg h2,if_neg h4,if_neg h5,if_neg h6] at hr;cases hr
  ·rw [if_neg hn] at hr;cases hr
def gN:List Pc→Prop
 | []=>True
 | .bl::r=>gN r
 | .tk t::r=>cP t=true∧t.kind≠6∧cM (sJ t) (laid r)∧gN r
theorem CZ {t:Tok} (hr:cP t=true) (h6:t.kind≠6):eL t≠[]:=by
 intro e;have h:=vP hr h6 [] (eZ _) 0;rw [e] at h;have:=congrArg (fun o:TokOut=>o.2.2) h;simp [cO] at this
theorem Lc {t:Tok} (hr:cP t=true) (h6:t.kind≠6):cM (fun c=>!iA c.toNat) (eL t):=by
 intro c r e;have h:=vP hr h6 [] (eZ _) 0;rw [List.append_nil,e] at h;cases hq:iA c.toNat with
 | false=>show (!iA c.toNat)=true;rw [hq];rfl
 | true=>have:=KD (y:=r) (k:=0) hq;rw [h] at this;cases this
theorem GS {t:Tok} (hr:cP t=true) (h6:t.kind≠6) {R:List UInt8} (hR:cM (sJ t) R):gA (eL t++R)=false:=by
 cases hq:gA (eL t++R) with
 | false=>rfl
 | true=>
  have h:=vP hr h6 R hR 0;cases hl:eL t++R with
  | nil=>rw [hl] at hq;cases hq
  | cons b y=>
   rw [hl] at h hq;cases y with
   | nil=>cases hq
   | cons c z=>
    simp [gA] at hq;have e1:b=47:=UInt8.toNat_inj.1 hq.1;have e2:c=47:=UInt8.toNat_inj.1 hq.2;subst e1 e2;have h1:cO (47::47::z) 0=(⟨5,⟨#[47]⟩,0,(0:Nat)⟩,1,0):=rfl;rw [h1] at h;have h2:(eL t).length=1:=by
     have:=congrArg (fun o:TokOut=>o.2.1) h;simp at this;omega
    have h5:t.kind=5:=by
     have:=congrArg (fun o:TokOut=>o.1.kind) h;simp [Tok.put] at this;omega
    obtain⟨a,ha⟩:=List.length_eq_one_iff.1 h2;rw [ha] at hl;simp at hl;have:=hR 47 z hl.2;simp [sJ,h5] at this
def kL:List Pc→List Pc
 | .bl::r=>kL r
 | l=>l
theorem BX:∀ (l:List Pc),gN l→lA false (laid l)=(laid l).length - (laid (kL l)).length∧(laid (kL l)).length≤(laid l).length∧(laid l).drop ((laid l).length - (laid (kL l)).length)=laid (kL l)
 | [],_=>by simp [kL,laid,lA]
 | .bl::r,h=>by
  obtain⟨h1,h2,h3⟩:=BX r h;have e:laid (.bl::r)=32::laid r:=by rw [bI];rfl
  have hs:gA (32::laid r)=false:=by cases laid r<;>simp [gA]
  have hsk:kL (.bl::r)=kL r:=rfl;rw [e,hsk];refine⟨?_,by simp;omega,?_⟩
  ·simp [lA,hs,h1,iA];omega
  ·rw [show (32::laid r).length - (laid (kL r)).length=((laid r).length - (laid (kL r)).length)+1 by simp;omega];simpa using h3
 | .tk t::r,h=>by
  obtain⟨hr,h6,hR,_⟩:=h;have hsk:kL (.tk t::r)=.tk t::r:=rfl;rw [hsk];refine⟨?_,Nat.le_refl _,by simp⟩;rw [Nat.sub_self,bI];show lA false (eL t++laid r)=0;have h1:=GS hr h6 hR;have h2:=Lc hr h6;have h3:=CZ hr h6;cases ht:eL t with
  | nil=>exact absurd ht h3
  | cons c y=>
   have hb:=h2 c y ht;rw [ht] at h1;simp only [List.cons_append] at h1 ⊢;simp only [Bool.not_eq_true'] at hb;simp [lA,h1,hb]
theorem oT:∀ l:List Pc,aK (kL l)=aK l
 | []=>rfl
 | .bl::r=>oT r
 | .tk _::_=>rfl
theorem uI:∀ {l:List Pc},gN l→gN (kL l)
 | [],h=>h
 | .bl::r,h=>uI (l:=r) h
 | .tk _::_,h=>h
end Go.Proofs.YtdnnmjhfidimcaaGreatDoor
