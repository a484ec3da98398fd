/- What text.Take answers, for any text. A tree's text as tokens and blanks. Pieces that stand well beside each other are read as their tokens. -/
import Derived.Test.YtdnnmjhfidimcaaGreatDoorJoint7
import Derived.Deep.RegionWith
import Derived.Test.YtdnnmjhfidimcaaGreatDoorJoint2
import Derived.Test.YtdnnmjhfidimcaaGreatDoorJoint4
namespace Go.Proofs.YtdnnmjhfidimcaaGreatDoor
open Go.RowKit

theorem Yzw {f:Nat} {l acc:List UInt8} {k:Nat} {out:List UInt8×Nat×Int} (h:Czc f l k acc=out) (hf:l.length<f) (hl:lookN l=34):out=(acc,k+1,0):=by
 match f,l with
 | f+1,[]=>simp [lookN] at hl
 | f+1,c::r=>rw [← h,Czc,if_pos (by exact hl)]
theorem Fzy {f:Nat} {l acc:List UInt8} {k n:Nat} {out:List UInt8×Nat×Int} (h:Czc f l k acc=out) (hf:l.length<f) (hl:lookN l≠34) (ho:Lzd l=(none,n)):out=([],k+n,11):=by
 match f,l with
 | f+1,[]=>simp [Lzd] at ho;rw [← h,Czc,← ho];rfl
 | f+1,c::r=>rw [← h,Czc,if_neg (by exact hl),ho]
theorem Gzy {f:Nat} {l acc:List UInt8} {k n:Nat} {b:UInt8} {out:List UInt8×Nat×Int} (h:Czc f l k acc=out) (hf:l.length<f) (ho:Lzd l=(some b,n)) :
  ∃ f',Czc f' (l.drop n) (k+n) (acc++[b])=out∧(l.drop n).length<f'∧1≤n∧n≤l.length:=by
 have hn:=nzn ho;have hle:=Gzj l;rw [ho] at hle;match f,l with
 | f+1,[]=>simp [Lzd] at ho
 | f+1,c::r=>
  rw [Xzh ho] at h;refine⟨f,h,?_,hn,hle⟩;simp only [List.length_drop];simp at hf hle ⊢;omega

def atOf (b:Nat) (w:World):Nat:=match w.cell? ⟨b,3,none⟩ with | some (.int _ n)=>n.toNat | _=>0
theorem Rdr.atOf {s:ByteArray} {B b k:Nat} {acc:List UInt8} {w:World} (h:Rdr s B b k acc w):atOf b w=k:=by
 unfold YtdnnmjhfidimcaaGreatDoor.atOf;rw [h.at];simp

set_option maxHeartbeats 1600000 in
set_option maxRecDepth 100000 in
theorem hzq (s:ByteArray) (hs:s.size≤1000000) (B b:Nat) (w:World) (h:Rdr s B b 0 [] w) :
  Calls Tryz.prog 156 #[.pointer (some ⟨b,0,none⟩)] w fun e w'=>∃ (k:Nat) (acc:List UInt8),Rdr s B b k acc w'∧Below B w w'∧
   ((e=.returned (.bool true)∧takeOut s.data.toList=(acc,k,0))∨(e=.returned (.bool false)∧takeOut s.data.toList=([],k,11))):=by
 have HR:=hid h;clear h;by_cases h34:lookN (s.data.toList.drop 0)=34
 ·have H34:=hid h34;have hpos:0<s.size:=by
   rcases Nat.lt_or_ge 0 s.size with h' | h'
   ·exact h'
   ·rw [yzd s 0 h'] at h34;simp [lookN] at h34
  have hd:=Szb s 0 hpos;have hout:takeOut s.data.toList=Czc ((s.data.toList.drop 1).length+1) (s.data.toList.drop 1) 1 []:=by
   rw [List.drop_zero] at hd h34;conv=>lhs;rw [hd]
   rw [hd] at h34;simp only [takeOut];rw [if_pos (by exact h34)]
  have HO:=hid hout;clear h34 hd hout;go_enter Tryz.func156,Tryz.ntmps156;go_wp2_with fail;refine (nzh s hs B b 0 [] 34 (by omega) _ HR.out H34.out).mono ?_;rintro e w1 ⟨rfl,h1,b1⟩;have H1:=hid h1;have B1:=hid b1;clear h1 b1;go_wp2_with fail;go_loopw [] (fun wr=>∃ (k f:Nat) (acc:List UInt8),k≤s.size∧acc.length≤k∧Czc f (s.data.toList.drop k) k acc=takeOut s.data.toList∧(s.data.toList.drop k).length<f∧Rdr s B b k acc wr∧Below B w wr) (fun wr=>s.size - atOf b wr)
  case atStart=>exact⟨1,_,[],hpos,by simp,HO.out.symm,by omega,H1.out,B1.out⟩
  case round=>
   clear H1 B1 HO HR H34;obtain⟨k,f,acc,hk,hak,hgo,hf,hR,hB⟩:=hrel;have HR:=hid hR;have HB:=hid hB;have HG:=hid hgo;have HF:=hid hf;clear hR hB hgo hf;by_cases h34:lookN (s.data.toList.drop k)=34
   ·have HO:=hid (Yzw HG.out HF.out h34);have H34:=hid h34;clear h34;go_wp2_with fail;refine (nzh s hs B b k acc 34 hk _ HR.out H34.out).mono ?_;rintro e w2 ⟨rfl,h2,b2⟩;have H2:=hid h2;have B2:=hid (HB.out.trans b2);clear h2 b2;go_wp2;go_ret;exact⟨k+1,acc,H2.out,B2.out,Or.inl ⟨rfl,HO.out⟩⟩
   ·have H34:=hid h34;cases hone:Lzd (s.data.toList.drop k) with
    | mk o n=>
     have HOne:=hid hone;clear hone;cases o with
     | none=>
      have HO:=hid (Fzy HG.out HF.out h34 HOne.out);clear h34;go_wp2_with fail;refine (vzf s B b k acc 34 hk _ HR.out H34.out).mono ?_;rintro e w2 ⟨rfl,h2,b2⟩;have H2:=hid h2;have B2:=hid (HB.out.trans b2);clear h2 b2;go_wp2_with fail;refine (Fzn s hs B b k acc hk (by omega) _ H2.out none n HOne.out).mono ?_;rintro e w3 ⟨rfl,h3,b3⟩;have H3:=hid h3;have B3:=hid (B2.out.trans b3);clear h3 b3;go_wp2;go_ret;exact⟨k+n,acc++none.toList,H3.out,B3.out,Or.inr ⟨rfl,HO.out⟩⟩
     | some c=>
      obtain⟨f',hg',hf',hn1,hn2⟩:=Gzy HG.out HF.out HOne.out;have HG':=hid hg';have HF':=hid hf';rw [List.length_drop,fzb] at hn2;clear h34 hg' hf';go_wp2_with fail;refine (vzf s B b k acc 34 hk _ HR.out H34.out).mono ?_;rintro e w2 ⟨rfl,h2,b2⟩;have H2:=hid h2;have B2:=hid (HB.out.trans b2);clear h2 b2;go_wp2_with fail;refine (Fzn s hs B b k acc hk (by omega) _ H2.out (some c) n HOne.out).mono ?_;rintro e w3 ⟨rfl,h3,b3⟩;have H3:=hid h3;have B3:=hid (B2.out.trans b3);clear h3 b3;go_wp2;refine⟨⟨k+n,f',acc++[c],by omega,by simp;omega,by rw [← List.drop_drop];exact HG'.out,by rw [← List.drop_drop];exact HF'.out,H3.out,B3.out⟩,?_⟩;rw [H3.out.atOf,HR.out.atOf];omega
 ·have hout:takeOut s.data.toList=([],0,11):=by
   rw [List.drop_zero] at h34;cases hd:s.data.toList with
   | nil=>rfl
   | cons c r=>rw [hd] at h34;simp only [takeOut];rw [if_neg (by exact h34)]
  have HO:=hid hout;have H34:=hid h34;clear hout h34;go_enter Tryz.func156,Tryz.ntmps156;go_wp2_with fail;refine (vzf s B b 0 [] 34 (by omega) _ HR.out H34.out).mono ?_;rintro e w1 ⟨rfl,h1,b1⟩;have H1:=hid h1;have B1:=hid b1;clear h1 b1;go_wp2;go_ret;exact⟨0,[],H1.out,B1.out,Or.inr ⟨rfl,HO.out⟩⟩

set_option maxHeartbeats 1600000 in
set_option maxRecDepth 100000 in
theorem rzj (s:ByteArray) (hs:s.size≤1000000) (w:World) :
  Calls Tryz.prog 129 #[.string s] w fun e w'=>
   e=.returned (.tuple #[.string ⟨(takeOut s.data.toList).1.toArray⟩,.int .i64 ((takeOut s.data.toList).2.1:Int),.int .i64 (takeOut s.data.toList).2.2])∧Below w.heap.size w w':=by
 have hnew:Rdr s w.heap.size w.heap.size 0 [] (w.alloc (.cells #[.pointer none,.slice none 0 0,.string s,.int .i64 0] 137)):=vzo 137 [.string s,.int .i64 0] w _ rfl;have hb0:Below w.heap.size w (w.alloc (.cells #[.pointer none,.slice none 0 0,.string s,.int .i64 0] 137)):=(Below.refl _ w).alloc (Nat.le_refl _) _;have H0:=hid hnew;have B0:=hid hb0;clear hnew hb0;go_enter Tryz.func129,Tryz.ntmps129;go_wp2_with fail;refine (hzq s hs _ _ _ H0.out).mono ?_;rintro e w1 ⟨k,acc,h1,b1,(⟨rfl,ho⟩ | ⟨rfl,ho⟩)⟩
 ·have H1:=hid h1;have B1:=hid (B0.out.trans b1);have ca:w1.drew.cell? ⟨w.heap.size,3,none⟩=some (.int .i64 (k:Int)):=h1.drew.at;have HO:=hid ho;have HD:=hid h1.drew;clear h1 b1 ho;go_wp2_with fail;go_region_with (go_at_call 28;refine (Jzh _ _ _ _ _ _ HD.out).mono ?_;rintro e w2 ⟨rfl,b2,hc⟩;have c2:w2.cell? ⟨w.heap.size,3,none⟩=some (.int .i64 (k:Int)):=(hc 3).trans ca;clear hc)
  all_goals (go_wp2;go_ret3;exact⟨by rw [HO.out];rfl,B1.out.drew.trans b2⟩)
 ·have H1:=hid h1;have B1:=hid (B0.out.trans b1);have ca:w1.drew.cell? ⟨w.heap.size,3,none⟩=some (.int .i64 (k:Int)):=h1.drew.at;have HO:=hid ho;clear h1 b1 ho;go_wp2_with fail;go_region;all_goals (go_wp2;go_ret3;exact⟨by rw [HO.out];rfl,B1.out.drew⟩)

end Go.Proofs.YtdnnmjhfidimcaaGreatDoor

namespace Go.Proofs.YtdnnmjhfidimcaaGreatDoor
open Go.RowKit

inductive Pc where
 | bl
 | tk (t:Tok)
def Pc.text:Pc→List UInt8
 | .bl=>[32]
 | .tk t=>kzc t
def laid (l:List Pc):List UInt8:=l.flatMap Pc.text
def kza:List Pc→List Tok
 | []=>[]
 | .bl::r=>kza r
 | .tk t::r=>t::kza r
theorem yzf:laid []=[]:=rfl
theorem Lza (p:Pc) (r:List Pc):laid (p::r)=p.text++laid r:=by simp [laid]
theorem dzb (a b:List Pc):laid (a++b)=laid a++laid b:=by simp [laid]
theorem Aza:∀ a b:List Pc,kza (a++b)=kza a++kza b
 | [],b=>rfl
 | .bl::r,b=>by show kza (r++b)=kza r++kza b;exact Aza r b
 | .tk t::r,b=>by show t::kza (r++b)=t::kza r++kza b;rw [Aza r b];rfl

def kwT (x:List UInt8):Tok:=⟨2,⟨x.toArray⟩,0,0⟩
def sgT (x:List UInt8):Tok:=⟨5,⟨x.toArray⟩,0,0⟩
def nmT (s:ByteArray):Tok:=⟨1,s,0,0⟩
def ppT (s:ByteArray):Tok:=⟨if eze s.data.toList then 2 else 1,s,0,0⟩
def kw (x:List UInt8):Pc:=.tk (kwT x)
def sg (x:List UInt8):Pc:=.tk (sgT x)
def nm (s:ByteArray):Pc:=.tk (nmT s)
def pp (s:ByteArray):Pc:=.tk (ppT s)
theorem yze (x:List UInt8):(kw x).text=x:=by simp [kw,kwT,Pc.text,kzc]
theorem gzd (x:List UInt8):(sg x).text=x:=by simp [sg,sgT,Pc.text,kzc]
theorem Kzh (s:ByteArray):(nm s).text=s.data.toList:=by simp [nm,nmT,Pc.text,kzc]
theorem xzl (s:ByteArray):(pp s).text=s.data.toList:=by
 unfold pp ppT Pc.text kzc;cases eze s.data.toList<;>rfl
theorem Vzd:Pc.bl.text=[32]:=rfl

structure Px where
 kind:Int
 rank:Int
 e:List Pc
 s:List Pc
 b:List Pc
 has:Bool
def Px.tx (x:Px):Tx:=⟨x.kind,x.rank,laid x.e,laid x.s,laid x.b,x.has⟩
def Px.none:Px:=⟨0,0,[],[],[],false⟩

def ezx (k n:Int) (s:ByteArray):Pc:=
 if k=1 then kw [110,117,108,108] else if k=6 then kw [116,104,105,115] else if k=2 then (if n=0 then kw [102,97,108,115,101] else kw [116,114,117,101])
 else if k=3 then .tk ⟨3,⟨(digs n).toArray⟩,n,0⟩ else if k=4 then .tk ⟨4,s,0,0⟩ else nm s
def Fzd (x:Px) (least:Int):List Pc:=if least≤x.rank then x.e else sg [40]::(x.e++[sg [41]])
def Hzc (l:List Px):List Pc:=l.flatMap fun x=>sg [44] :: .bl::x.e
def Gzf:List Px→List Pc
 | []=>[]
 | x::r=>x.e++Hzc r
def Qze (l:List Px):List Pc:=sg [40]::(Gzf l++[sg [41]])
def tzi (s:ByteArray) (x:Px):List Pc:=pp s::sg [58] :: .bl::x.e
def Izc:List ByteArray→List Px→List Pc
 | s::ns,x::r=>sg [44] :: .bl::(tzi s x++Izc ns r)
 | _,_=>[]
def Czk:List ByteArray→List Px→List Pc
 | s::ns,x::r=>sg [123]::(tzi s x++Izc ns r++[sg [125]])
 | _,_=>[sg [123],sg [125]]
def zzf (ns:List ByteArray):List Pc:=ns.flatMap fun x=>[sg [44],.bl,nm x]
def hzg:List ByteArray→List Pc
 | []=>[]
 | s::r=>nm s::zzf r
def Bzc (l:List Px):List Pc:=l.flatMap fun x=>.bl::x.s
def blockC (l:List Px):List Pc:=sg [123]::(Bzc l++(if l.isEmpty then [sg [125]] else [.bl,sg [125]]))
def qzh:List Px→List Pc
 | []=>[]
 | x::r=>x.s++Bzc r
def uzi (x:Px) (s:ByteArray):List Pc:=Fzd x 8++[sg [46],pp s]
def Azf (x y:Px):List Pc:=Fzd x 8++(sg [91]::(y.e++[sg [93]]))
def ozd (x:Px):List Pc:=.bl::sg [61] :: .bl::x.e
def Zze (r:Int) (g:List UInt8) (x y:Px):List Pc:=Fzd x r++(.bl::sg g :: .bl::Fzd y (r+1))
def c0 (l:List Px):Px:=l.getD 0 Px.none
def c1 (l:List Px):Px:=l.getD 1 Px.none
def c2 (l:List Px):Px:=l.getD 2 Px.none
def exprC (k o n:Int) (s:ByteArray) (ns:List ByteArray) (l:List Px):List Pc:=
 if k=7 then Czk ns l
 else if k=8 then kw [102,110]::sg [40]::(hzg ns++(sg [41] :: .bl::blockC l))
 else if k=9 then sg [if o=1 then 45 else 33]::Fzd (c0 l) 7
 else if k=10 then Zze (rankT 10 o) (signT o) (c0 l) (c1 l)
 else if k=11 then Zze 2 [38,38] (c0 l) (c1 l)
 else if k=12 then Zze 1 [124,124] (c0 l) (c1 l)
 else if k=13 then uzi (c0 l) s
 else if k=14 then Azf (c0 l) (c1 l)
 else if k=15 then Fzd (c0 l) (if (c0 l).kind=13 then 9 else 8)++Qze l.tail
 else if k=16 then uzi (c0 l) s++Qze l.tail
 else if k=17 then kw (builtT o).1::Qze l
 else [ezx k n s]
def nzs (k:Int) (s:ByteArray) (l:List Px):List Pc:=
 if k=21 then kw [108,101,116] :: .bl::nm s::ozd (c0 l)
 else if k=22 then nm s::ozd (c0 l)
 else if k=23 then uzi (c0 l) s++ozd (c1 l)
 else if k=24 then Azf (c0 l) (c1 l)++ozd (c2 l)
 else if k=25 then kw [100,101,108,101,116,101] :: .bl::uzi (c0 l) s
 else if k=26 then kw [100,101,108,101,116,101] :: .bl::Azf (c0 l) (c1 l)
 else if k=27 then kw [112,114,105,110,116] :: .bl::(c0 l).e
 else if k=31 then kw [114,101,116,117,114,110] :: .bl::(c0 l).e
 else if k=32 then (c0 l).e else []
def dzf (key:List UInt8) (x y:Px):List Pc:=kw key :: .bl::sg [40]::(x.e++(sg [41] :: .bl::y.b))
def stmtC (k:Int) (s:ByteArray) (l:List Px):List Pc:=
 if k=28 then dzf [105,102] (c0 l) (c1 l)++(if (c2 l).has then .bl::kw [101,108,115,101] :: .bl::(c2 l).b else [])
 else if k=30 then dzf [119,104,105,108,101] (c0 l) (c1 l)
 else nzs k s l++[sg [59]]

mutual
def pcN:Nd→Px
 | .mk k o n s ns ks _=>⟨k,rankT k o,exprC k o n s ns (pcL ks),stmtC k s (pcL ks),blockC (pcL ks),!ks.isEmpty⟩
def pcL:List Nd→List Px
 | []=>[]
 | x::r=>pcN x::pcL r
end
theorem kzt:∀ l:List Nd,pcL l=l.map pcN
 | []=>by rw [pcL];rfl
 | x::r=>by rw [pcL,kzt r];rfl
theorem izb (k o n:Int) (s:ByteArray) (ns:List ByteArray) (ks:List Nd) (p:Int) :
  pcN (.mk k o n s ns ks p)=⟨k,rankT k o,exprC k o n s ns (ks.map pcN),stmtC k s (ks.map pcN),blockC (ks.map pcN),!ks.isEmpty⟩:=by
 rw [pcN,kzt]

theorem Izo (l:List Px) (i:Nat):(l.map Px.tx).getD i Tx.none=(l.getD i Px.none).tx:=by
 rw [List.getD_eq_getElem?_getD,List.getD_eq_getElem?_getD,List.getElem?_map];cases l[i]?<;>rfl
theorem fzx (l:List Px):at0 (l.map Px.tx)=(c0 l).tx:=Izo l 0
theorem gzx (l:List Px):at1 (l.map Px.tx)=(c1 l).tx:=Izo l 1
theorem xzz (l:List Px):at2 (l.map Px.tx)=(c2 l).tx:=Izo l 2
theorem rzv (k n:Int) (s:ByteArray):(ezx k n s).text=Izd k n s:=by
 unfold ezx Izd;split
 ·rw [yze]
 split
 ·rw [yze]
 split
 ·split<;>rw [yze]
 split
 ·simp [Pc.text,kzc]
 split
 ·simp [Pc.text,kzc]
 ·rw [Kzh]
theorem Qzf (x:Px) (r:Int):laid (Fzd x r)=bzb x.tx r:=by
 unfold Fzd bzb;show laid (if r≤x.rank then x.e else _)=if r≤x.rank then laid x.e else _
 split
 ·rfl
 ·simp [Lza,dzb,gzd,yzf,Px.tx]
theorem azl:∀ l:List Px,laid (Hzc l)=Xzf (l.map Px.tx)
 | []=>rfl
 | x::r=>by
  have:=azl r;simp only [Hzc,Xzf,List.flatMap_cons,List.map_cons,dzb,Lza,gzd,Vzd] at *
  rw [this];simp [Px.tx]
theorem szv (l:List Px):laid (Gzf l)=hze (l.map Px.tx):=by
 cases l with
 | nil=>rfl
 | cons x r=>rw [Gzf,List.map_cons,hze,dzb,azl];rfl
theorem Dzk (l:List Px):laid (Qze l)=Szd (l.map Px.tx):=by
 unfold Qze Szd;rw [Lza,dzb,szv,Lza,gzd,gzd];rfl
theorem bzl:∀ (ns:List ByteArray) (l:List Px),laid (Izc ns l)=tzd ns (l.map Px.tx)
 | [],l=>by cases l<;>rfl
 | s::ns,[]=>rfl
 | s::ns,x::r=>by
  rw [Izc,List.map_cons,tzd,← bzl ns r];simp [Lza,dzb,gzd,xzl,Vzd,tzi,Pzf,Px.tx]
theorem hzx (ns:List ByteArray) (l:List Px):laid (Czk ns l)=Qzg ns (l.map Px.tx):=by
 cases ns with
 | nil=>cases l<;>simp [Czk,Qzg,Lza,gzd,yzf]
 | cons s ns=>
  cases l with
  | nil=>simp [Czk,Qzg,Lza,gzd,yzf]
  | cons x r=>
   rw [Czk,List.map_cons,Qzg,← bzl ns r];simp [Lza,dzb,gzd,xzl,Vzd,tzi,Pzf,Px.tx,yzf]
theorem tzv (ns:List ByteArray):laid (hzg ns)=gzg ns:=by
 cases ns with
 | nil=>rfl
 | cons s r=>
  rw [hzg,gzg,Lza,Kzh];congr 1;induction r with
  | nil=>rfl
  | cons y r ih=>simp only [zzf,List.flatMap_cons,dzb,Lza,gzd,Vzd,Kzh] at *;rw [ih];simp [yzf]
theorem vzi:∀ l:List Px,laid (Bzc l)=Gzc (l.map Px.tx)
 | []=>rfl
 | x::r=>by
  have:=vzi r;simp only [Bzc,Gzc,List.flatMap_cons,List.map_cons,dzb,Lza,Vzd] at *
  rw [this];simp [Px.tx]
theorem wzm (l:List Px):laid (blockC l)=blockT (l.map Px.tx):=by
 unfold blockC blockT;rw [Lza,dzb,vzi,gzd];cases l<;>simp [Lza,yzf,gzd,Vzd]
theorem Jzo (l:List Px):laid (qzh l)=Rzb (l.map Px.tx):=by
 cases l with
 | nil=>rfl
 | cons x r=>rw [qzh,List.map_cons,Rzb,dzb,vzi];rfl
theorem azk (x:Px) (s:ByteArray):laid (uzi x s)=Pzd x.tx s:=by
 unfold uzi Pzd;rw [dzb,Qzf];simp [Lza,yzf,gzd,xzl]
theorem tzj (x y:Px):laid (Azf x y)=izc x.tx y.tx:=by
 unfold Azf izc;rw [dzb,Qzf];simp [Lza,yzf,dzb,gzd,Px.tx]
theorem vzg (x:Px):laid (ozd x)=Eza x.tx:=by
 unfold ozd Eza;simp [Lza,gzd,Vzd,Px.tx]
theorem Lzh (r:Int) (g:List UInt8) (x y:Px):laid (Zze r g x y)=Fzc r g x.tx y.tx:=by
 unfold Zze Fzc;rw [dzb,Qzf];simp [Lza,Qzf,gzd,Vzd]
theorem uzv (k o n:Int) (s:ByteArray) (ns:List ByteArray) (l:List Px):laid (exprC k o n s ns l)=exprT k o n s ns (l.map Px.tx):=by
 unfold exprC exprT;rw [fzx,gzx];by_cases h7:k=7
 ·rw [if_pos h7,if_pos h7];exact hzx ns l
 rw [if_neg h7,if_neg h7];by_cases h8:k=8
 ·rw [if_pos h8,if_pos h8];simp [Lza,dzb,yze,gzd,Vzd,tzv,wzm]
 rw [if_neg h8,if_neg h8];by_cases h9:k=9
 ·rw [if_pos h9,if_pos h9];rw [Lza,Qzf,gzd];rfl
 rw [if_neg h9,if_neg h9];by_cases h10:k=10
 ·rw [if_pos h10,if_pos h10];exact Lzh _ _ _ _
 rw [if_neg h10,if_neg h10];by_cases h11:k=11
 ·rw [if_pos h11,if_pos h11];exact Lzh _ _ _ _
 rw [if_neg h11,if_neg h11];by_cases h12:k=12
 ·rw [if_pos h12,if_pos h12];exact Lzh _ _ _ _
 rw [if_neg h12,if_neg h12];by_cases h13:k=13
 ·rw [if_pos h13,if_pos h13];exact azk _ _
 rw [if_neg h13,if_neg h13];by_cases h14:k=14
 ·rw [if_pos h14,if_pos h14];exact tzj _ _
 rw [if_neg h14,if_neg h14];by_cases h15:k=15
 ·rw [if_pos h15,if_pos h15];rw [dzb,Qzf,Dzk,List.map_tail];rfl
 rw [if_neg h15,if_neg h15];by_cases h16:k=16
 ·rw [if_pos h16,if_pos h16];rw [dzb,azk,Dzk,List.map_tail]
 rw [if_neg h16,if_neg h16];by_cases h17:k=17
 ·rw [if_pos h17,if_pos h17];rw [Lza,Dzk,yze]
 rw [if_neg h17,if_neg h17];rw [Lza,rzv,yzf,List.append_nil]
theorem ozs (k:Int) (s:ByteArray) (l:List Px):laid (nzs k s l)=uzm k s (l.map Px.tx):=by
 unfold nzs uzm;rw [fzx,gzx,xzz];by_cases h21:k=21
 ·rw [if_pos h21,if_pos h21];simp [Lza,yze,Kzh,Vzd,vzg]
 rw [if_neg h21,if_neg h21];by_cases h22:k=22
 ·rw [if_pos h22,if_pos h22];simp [Lza,Kzh,vzg]
 rw [if_neg h22,if_neg h22];by_cases h23:k=23
 ·rw [if_pos h23,if_pos h23];rw [dzb,azk,vzg]
 rw [if_neg h23,if_neg h23];by_cases h24:k=24
 ·rw [if_pos h24,if_pos h24];rw [dzb,tzj,vzg]
 rw [if_neg h24,if_neg h24];by_cases h25:k=25
 ·rw [if_pos h25,if_pos h25];simp [Lza,yze,Vzd,azk]
 rw [if_neg h25,if_neg h25];by_cases h26:k=26
 ·rw [if_pos h26,if_pos h26];simp [Lza,yze,Vzd,tzj]
 rw [if_neg h26,if_neg h26];by_cases h27:k=27
 ·rw [if_pos h27,if_pos h27];simp [Lza,yze,Vzd,Px.tx]
 rw [if_neg h27,if_neg h27];by_cases h31:k=31
 ·rw [if_pos h31,if_pos h31];simp [Lza,yze,Vzd,Px.tx]
 rw [if_neg h31,if_neg h31];by_cases h32:k=32
 ·rw [if_pos h32,if_pos h32];rfl
 rw [if_neg h32,if_neg h32];rfl
theorem vzv (k:Int) (s:ByteArray) (l:List Px):laid (stmtC k s l)=stmtT k s (l.map Px.tx):=by
 have br:∀ key x y,laid (dzf key x y)=Nzb key x.tx y.tx:=by
  intro key x y;simp [dzf,Nzb,Lza,dzb,yze,gzd,Vzd,Px.tx]
 unfold stmtC stmtT;rw [fzx,gzx,xzz];split
 ·rw [dzb,br];congr 1;show _=if (c2 l).has=true then _ else _
  split
  ·simp [Lza,yze,Vzd,Px.tx]
  ·rfl
 split
 ·exact br _ _ _
 ·rw [dzb,ozs,Lza,gzd];rfl
theorem czA (t:Nd):(pcN t).tx=textN t:=by
 refine Nd.ind (P:=fun t=>(pcN t).tx=textN t) ?_ t;intro k o n s ns ks p ih;have e:(ks.map pcN).map Px.tx=ks.map textN:=by rw [List.map_map];exact List.map_congr_left ih
 rw [izb,xzf];show Tx.mk _ _ _ _ _ _=_;rw [uzv,vzv,wzm,e]
def wzi (t:Nd):List Pc:=qzh (t.kids.map pcN)
theorem pzs (t:Nd):laid (wzi t)=gzf t:=by
 unfold wzi gzf;rw [Jzo,List.map_map];congr 1;exact List.map_congr_left fun x _=>czA x

end Go.Proofs.YtdnnmjhfidimcaaGreatDoor

namespace Go.Proofs.YtdnnmjhfidimcaaGreatDoor
open Go.RowKit

def oze (c:UInt8):Bool:=!Kzc c.toNat&&(c != 61&&c != 47)
def xzi (t:Tok) (c:UInt8):Bool:=if t.kind=4 then true else if t.kind=5 then (c != 61&&c != 47) else !Kzc c.toNat
theorem Wzi {t:Tok} {c:UInt8} (h:oze c=true):xzi t c=true:=by
 simp only [oze,Bool.and_eq_true] at h;unfold xzi;split
 ·rfl
 split
 ·simp [h.2.1,h.2.2]
 ·exact h.1
def ozb (p:UInt8→Bool) (l:List UInt8):Prop:=∀ c r,l=c::r→p c=true
theorem yzc (p:UInt8→Bool):ozb p []:=by intro c r h;cases h
theorem nzf {p:UInt8→Bool} {c:UInt8} {r:List UInt8} (h:p c=true):ozb p (c::r):=by intro c' r' e;injection e with e1 e2;subst e1;exact h

theorem Ezk {p:Nat→Bool} {R:List UInt8} (hR:ozb (fun c=>!p c.toNat) R):∀ x:List UInt8,(∀ b∈x,p b.toNat=true)→tze p (x++R)=x.length
 | [],_=>by
  cases R with
  | nil=>rfl
  | cons c r=>have:=hR c r rfl;simp at this;simp [tze,this]
 | b::x,h=>by
  have h1:=h b (by simp);have h2:=Ezk hR x (fun y hy=>h y (by simp [hy]));simp [tze,h1,h2]
theorem izx (x:List UInt8) (h:x∈sgnL) (R:List UInt8) (hR:ozb (fun c=>c != 61&&c != 47) R) (k:Nat):qzb (x++R) k=(⟨5,⟨x.toArray⟩,0,k⟩,k+x.length,0):=by
 have key:∀ x∈sgnL,(∀ k,qzb x k=(⟨5,⟨x.toArray⟩,0,k⟩,k+x.length,0)):=by
  intro x hx k;simp only [sgnL,List.mem_cons,List.not_mem_nil,or_false] at hx;rcases hx with rfl | rfl | rfl | rfl | rfl | rfl | rfl | rfl | rfl | rfl | rfl | rfl | rfl | rfl | rfl | rfl | rfl | rfl | rfl | rfl | rfl | rfl | rfl | rfl | rfl<;>rfl
 cases R with
 | nil=>rw [List.append_nil];exact key x h k
 | cons c r=>
  have hc:=hR c r rfl;simp only [Bool.and_eq_true,bne_iff_ne] at hc;have h61:(61==c)=false:=by rw [beq_eq_false_iff_ne];exact fun e=>hc.1 e.symm
  have h61':(c==61)=false:=by rw [beq_eq_false_iff_ne];exact hc.1
  simp only [sgnL,List.mem_cons,List.not_mem_nil,or_false] at h;rcases h with rfl | rfl | rfl | rfl | rfl | rfl | rfl | rfl | rfl | rfl | rfl | rfl | rfl | rfl | rfl | rfl | rfl | rfl | rfl | rfl | rfl | rfl | rfl | rfl | rfl<;>
   first
   | rfl
   | simp [qzb,jzg,signL,sgnL,Xzc,List.isPrefixOf,h61,Xza,Yza]

theorem bzk {t:Tok} (hr:rzb t=true) (h6:t.kind≠6) (R:List UInt8) (hR:ozb (xzi t) R) (k:Nat):qzb (kzc t++R) k=(t.put k,k+(kzc t).length,0):=by
 obtain⟨kd,x,n,p⟩:=t;simp only at h6;unfold rzb at hr;simp only at hr;by_cases h3:kd=3
 ·subst h3;rw [if_pos rfl,Bool.and_eq_true,Bool.and_eq_true,decide_eq_true_iff,decide_eq_true_iff,beq_iff_eq] at hr;obtain⟨n0,n1,hx⟩:=hr;have hb:=Bzy n0 n1;have hall:(digs n).all Oze=true:=by
   unfold digs;rw [if_neg (by omega)];exact tzl _ _
  have hd:∀ b∈digs n,Yza b.toNat=true:=by
   intro b hb;have:=List.all_eq_true.1 hall b hb;simp [Oze] at this;simp [Yza];omega
  have ht:kzc ⟨3,x,n,p⟩=digs n:=by unfold kzc;rw [if_neg (by simp)];exact hx
  have hxb:x=⟨(digs n).toArray⟩:=by rw [← hx,izi]
  have hR':ozb (fun c=>!Yza c.toNat) R:=by
   intro c r e;have:=hR c r e;simp [xzi,Kzc] at this;simp [this.2]
  rw [ht];have hne:digs n≠[]:=by unfold digs;rw [if_neg (by omega)];exact Tzw _ _
  cases hdg:digs n with
  | nil=>exact absurd hdg hne
  | cons b y=>
   have hb1:=hd b (by rw [hdg];simp);have ho:qzb (b::y++R) k=Ize (b::y++R) k:=by
    show qzb (b::(y++R)) k=Ize (b::(y++R)) k;unfold qzb;simp only;rw [if_neg (by rw [tzo hb1];decide),if_pos hb1]
   rw [ho,← hdg];unfold Ize;rw [Ezk hR' _ hd,Tzp,hb,if_pos rfl];simp [Tok.put,hxb]
 ·rw [if_neg h3] at hr;by_cases hn:n=0
  ·subst hn;rw [if_pos rfl] at hr;by_cases h4:kd=4
   ·subst h4;simp at hr;have ht:kzc ⟨4,x,0,p⟩=Rze x.data.toList:=by unfold kzc;rw [if_pos rfl]
    rw [ht];have ho:qzb (Rze x.data.toList++R) k=Lzf (Rze x.data.toList++R) k:=rfl;rw [ho];unfold Lzf;rw [Fzl];simp only;rw [if_pos trivial,if_neg (by rw [fzb];omega),izi];rfl
   ·have ht:kzc ⟨kd,x,0,p⟩=x.data.toList:=by unfold kzc;rw [if_neg h4]
    rw [ht];by_cases h5:kd=5
    ·subst h5;simp at hr;have hR':ozb (fun c=>c != 61&&c != 47) R:=by
      intro c r e;have:=hR c r e;simpa [xzi] using this
     rw [izx _ hr R hR',izi];rfl
    have hR':ozb (fun c=>!Kzc c.toNat) R:=by
     intro c r e;have:=hR c r e;simpa [xzi,h4,h5] using this
    have hw:∀ y:List UInt8,(∀ b∈y,Kzc b.toNat=true)→vze (y++R) k=if eze y then (⟨2,⟨y.toArray⟩,0,k⟩,k+y.length,0) else if nameB y then (⟨1,⟨y.toArray⟩,0,k⟩,k+y.length,0) else (Tok.zero,k,11):=by
     intro y hy;unfold vze;rw [Ezk hR' y hy,Tzp]
    by_cases h1:kd=1
    ·subst h1;simp at hr;obtain⟨b,y,hx,hl,hwd⟩:=qzj hr.1;rw [hx,Uzp hl,← hx,hw _ hwd,hr.2,if_neg (by decide),hr.1,if_pos rfl,izi];rfl
    ·by_cases h2:kd=2
     ·subst h2;simp at hr;obtain⟨b,y,hx,hl,hwd⟩:=Zzu _ (List.contains_iff_mem.1 hr);rw [hx,Uzp hl,← hx,hw _ hwd,hr,if_pos rfl,izi];rfl
     ·rw [if_neg h1,if_neg h2,if_neg h4,if_neg h5,if_neg h6] at hr;cases hr
  ·rw [if_neg hn] at hr;cases hr

def hzd:List Pc→Prop
 | []=>True
 | .bl::r=>hzd r
 | .tk t::r=>rzb t=true∧t.kind≠6∧ozb (xzi t) (laid r)∧hzd r

theorem Kzo {t:Tok} (hr:rzb t=true) (h6:t.kind≠6):kzc t≠[]:=by
 intro e;have h:=bzk hr h6 [] (yzc _) 0;rw [e] at h;have:=congrArg (fun o:TokOut=>o.2.2) h;simp [qzb] at this
theorem wzv {t:Tok} (hr:rzb t=true) (h6:t.kind≠6):ozb (fun c=>!zzd c.toNat) (kzc t):=by
 intro c r e;have h:=bzk hr h6 [] (yzc _) 0;rw [List.append_nil,e] at h;cases hq:zzd c.toNat with
 | false=>show (!zzd c.toNat)=true;rw [hq];rfl
 | true=>have:=azv (y:=r) (k:=0) hq;rw [h] at this;cases this
theorem qzs {t:Tok} (hr:rzb t=true) (h6:t.kind≠6) {R:List UInt8} (hR:ozb (xzi t) R):Wzc (kzc t++R)=false:=by
 cases hq:Wzc (kzc t++R) with
 | false=>rfl
 | true=>
  have h:=bzk hr h6 R hR 0;cases hl:kzc t++R with
  | nil=>rw [hl] at hq;cases hq
  | cons b y=>
   rw [hl] at h hq;cases y with
   | nil=>cases hq
   | cons c z=>
    simp [Wzc] at hq;have e1:b=47:=UInt8.toNat_inj.1 hq.1;have e2:c=47:=UInt8.toNat_inj.1 hq.2;subst e1 e2;have h1:qzb (47::47::z) 0=(⟨5,⟨#[47]⟩,0,(0:Nat)⟩,1,0):=rfl;rw [h1] at h;have h2:(kzc t).length=1:=by
     have:=congrArg (fun o:TokOut=>o.2.1) h;simp at this;omega
    have h5:t.kind=5:=by
     have:=congrArg (fun o:TokOut=>o.1.kind) h;simp [Tok.put] at this;omega
    obtain⟨a,ha⟩:=List.length_eq_one_iff.1 h2;rw [ha] at hl;simp at hl;have:=hR 47 z hl.2;simp [xzi,h5] at this
def Hze:List Pc→List Pc
 | .bl::r=>Hze r
 | l=>l
theorem Mzn:∀ (l:List Pc),hzd l→Wze false (laid l)=(laid l).length - (laid (Hze l)).length∧(laid (Hze l)).length≤(laid l).length∧(laid l).drop ((laid l).length - (laid (Hze l)).length)=laid (Hze l)
 | [],_=>by simp [Hze,laid,Wze]
 | .bl::r,h=>by
  obtain⟨h1,h2,h3⟩:=Mzn r h;have e:laid (.bl::r)=32::laid r:=by rw [Lza];rfl
  have hs:Wzc (32::laid r)=false:=by cases laid r<;>simp [Wzc]
  have hsk:Hze (.bl::r)=Hze r:=rfl;rw [e,hsk];refine⟨?_,by simp;omega,?_⟩
  ·simp [Wze,hs,h1,zzd];omega
  ·rw [show (32::laid r).length - (laid (Hze r)).length=((laid r).length - (laid (Hze r)).length)+1 by simp;omega];simpa using h3
 | .tk t::r,h=>by
  obtain⟨hr,h6,hR,_⟩:=h;have hsk:Hze (.tk t::r)=.tk t::r:=rfl;rw [hsk];refine⟨?_,Nat.le_refl _,by simp⟩;rw [Nat.sub_self,Lza];show Wze false (kzc t++laid r)=0;have h1:=qzs hr h6 hR;have h2:=wzv hr h6;have h3:=Kzo hr h6;cases ht:kzc t with
  | nil=>exact absurd ht h3
  | cons c y=>
   have hb:=h2 c y ht;rw [ht] at h1;simp only [List.cons_append] at h1 ⊢;simp only [Bool.not_eq_true'] at hb;simp [Wze,h1,hb]
theorem Lzg:∀ l:List Pc,kza (Hze l)=kza l
 | []=>rfl
 | .bl::r=>Lzg r
 | .tk _::_=>rfl
theorem uzj:∀ {l:List Pc},hzd l→hzd (Hze l)
 | [],h=>h
 | .bl::r,h=>uzj (l:=r) h
 | .tk _::_,h=>h
end Go.Proofs.YtdnnmjhfidimcaaGreatDoor
