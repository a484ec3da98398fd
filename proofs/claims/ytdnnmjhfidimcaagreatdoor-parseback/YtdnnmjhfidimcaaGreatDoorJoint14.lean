/- Properties, indices and calls behind an atom. A tree's text as tokens and blanks. Pieces that stand well beside each other are read as their tokens. -/
import Derived.Test.YtdnnmjhfidimcaaGreatDoorPsBetw
import Derived.Test.YtdnnmjhfidimcaaGreatDoorJoint7
import Derived.Test.YtdnnmjhfidimcaaGreatDoorJoint4
namespace Go.Proofs.YtdnnmjhfidimcaaGreatDoor
set_option maxHeartbeats 3200000
open Go.RowKit
def Ri (P:Nat) (L:List Tok) (ok:Nat→Prop) (w:World) (out:PR) (e:Ending) (w':World):Prop:=
 match out with
 | .ok t _ l=>(∃ nv kv,e=.returned (gF t nv kv)∧sP ok w' t nv kv)∧PSt P L w' l∧But P w w'
 | .bad l=>e=aV∧PSt P L w' l∧But P w w'
def Nw (P:Nat) (L:List Tok) (ok:Nat→Prop) (w:World) (out:PL) (e:Ending) (w':World):Prop:=
 match out with
 | .ok _ ks l=>(∃ kv,e=.returned kv∧JF ok w' kv ks)∧PSt P L w' l∧But P w w'
 | .bad l=>e=aV∧PSt P L w' l∧But P w w'
structure Free (P:Nat) (ok:Nat→Prop) (w:World):Prop where
 up:∀ b,w.heap.size≤b→ok b
 no:¬ ok P
theorem Free.on {P:Nat} {ok:Nat→Prop} {a c:World} (h:Free P ok a) (hs:a.heap.size≤c.heap.size):Free P ok c:=⟨fun b hb=>h.up b (by omega),h.no⟩
def JG (f:Nat):Prop:=∀ (P:Nat) (L l:List Tok) (ok:Nat→Prop) (x:Nd) (nv kv:Value) (w:World),20*l.length+12≤f→Free P ok w→Hid (PSt P L w l)→Hid (sP ok w x nv kv)→Calls Tryz.prog 174 #[.pointer (some ⟨P,0,none⟩),gF x nv kv] w (Nw P L ok w (jO f [x] l))
def sI (f:Nat) (x:Nd) (l:List Tok):PR:=
 kR true l fun s l=>if cD l [40] then (jO f [x] l.tail).bind fun _ ks l=>.ok (uU 16 s ks) false l else .ok (uU 13 s [x]) true l
theorem yG {ok:Nat→Prop} {w:World} {kv:Value} {ks:List Nd} (h:JF ok w kv ks):∃ a c,kv=.slice a ks.length c:=by
 rcases h with ⟨ao,cap,e1,e2⟩ | ⟨b,off,cap,e,_,_,_⟩
 ·subst e2;exact⟨ao,cap,e1⟩
 ·exact⟨_,cap,e⟩
theorem Nx {P:Nat} {L:List Tok} {t:Tok} {r:List Tok} {w:World} (_h:PSt P L w (t::r)) (hw:rF true (t::r)=true):t.kind=1∨t.kind=2:=by
 unfold rF cur at hw;simpa using hw
theorem EU {ok ok':Nat→Prop} {a:World} {t:Nd} {nv kv:Value} (hn:sP ok a t nv kv) (h:∀ b,ok b→b<a.heap.size→ok' b):sP ok' a t nv kv:=
 hU (fun b hb=>⟨⟨h b hb.1 hb.2,hb.2⟩,rfl⟩) _ _ _ hn
theorem Ba {ok ok':Nat→Prop} {a:World} {kv:Value} {ks:List Nd} (hn:JF ok a kv ks) (h:∀ b,ok b→b<a.heap.size→ok' b):JF ok' a kv ks:=
 iN (fun b hb=>⟨⟨h b hb.1 hb.2,hb.2⟩,rfl⟩) hn
theorem Ny {ok:Nat→Prop} {g:Nat} {w2:World} {x:Nd} {nv kv:Value} (hg:¬ ok g) (hl:ok w2.heap.size) (N:sP ok w2 x nv kv) (a b c d e f p:Value) {T:TypeId} :
  JF ok ((put7w w2 g a b c d e f p).alloc (.cells (fX x nv kv) T)) (.slice (some ⟨w2.heap.size,0,none⟩) 1 1) [x]:=by
 have A:=fD w2 hg a b c d e f p;have hs:(put7w w2 g a b c d e f p).heap.size=w2.heap.size:=by simp [put7w,World.setCell]
 have A2:=eL A (aT (ok:=ok) ((Below.refl _ (put7w w2 g a b c d e f p)).alloc (Nat.le_refl _) (.cells (fX x nv kv) T)));have hb:=aJ (put7w w2 g a b c d e f p) T (fX x nv kv);rw [hs] at hb;exact Nm ⟨hl,by simp [hs]⟩ hb (aU A2 N)
theorem Nz {f:Nat} {x:Nd} {l:List Tok} (h:rF true l=false):sI f x l=.bad l:=by unfold sI kR;rw [h];rfl
theorem Lm {f:Nat} {x:Nd} {t:Tok} {q:List Tok} (h:rF true (t::q)=true) (h2:cD q [40]=false):sI f x (t::q)=.ok (uU 13 t.text [x]) true q:=by
 unfold sI kR;rw [h,if_pos rfl];show (if cD q [40] then _ else _)=_;rw [h2];rfl
theorem GY {f:Nat} {x:Nd} {t u:Tok} {q:List Tok} (h:rF true (t::u::q)=true) (h2:gP u [40]=true):sI f x (t::u::q)=(jO f [x] q).bind fun _ ks l=>.ok (uU 16 t.text ks) false l:=by
 unfold sI kR;rw [h,if_pos rfl];show (if cD (u::q) [40] then _ else _)=_;rw [eH,h2];rfl
theorem Bb (f:Nat) (hC:JG f) (P:Nat) (L l:List Tok) (ok:Nat→Prop) (x:Nd) (nv kv:Value) (w:World) (hf:20*l.length≤f) (F:Free P ok w) (H:Hid (PSt P L w l)) (N:Hid (sP ok w x nv kv)) :
  Calls Tryz.prog 173 #[.pointer (some ⟨P,0,none⟩),gF x nv kv] w (Ri P L ok w (sI f x l)):=by
 obtain⟨a1,q1,a2,q2,rfl,rfl⟩:=iI N.out;have hP:=H.out.lt;have A1:=(Below.refl _ w).alloc (Nat.le_refl _) (.cells (fX x (.slice a1 x.names.length q1) (.slice a2 x.kids.length q2)) 26);have A2:=(Below.refl _ (w.alloc (.cells (fX x (.slice a1 x.names.length q1) (.slice a2 x.kids.length q2)) 26))).alloc (Nat.le_refl _) (.cells dO 26);have A:=aA (bK A1 A2);have S0:=aA (H.out.on A.out);have G0:=aA (show dT (w.heap.size+1) 26 dO ((w.alloc (.cells (fX x (.slice a1 x.names.length q1) (.slice a2 x.kids.length q2)) 26)).alloc (.cells dO 26)) from by
  have:=aJ (w.alloc (.cells (fX x (.slice a1 x.names.length q1) (.slice a2 x.kids.length q2)) 26)) 26 dO;simpa using this)
 have X0:=aA (aC (aJ w 26 (fX x (.slice a1 x.names.length q1) (.slice a2 x.kids.length q2))) A2);have N0:=aA (aU (aT A.out) (EU (ok':=(fun b=>ok b∧b≠w.heap.size+1)) N.out (fun b h1 h2=>⟨h1,by omega⟩)));unfold dO at *
 unfold gF;cases hw:rF true l with
 | false=>
  rw [Nz hw];have HW:=aA hw;clear H N hC hw X0 N0 G0;unfold fX at *
  go_enter Tryz.func173,Tryz.ntmps173;go_wp2_with fail;refine (Dz P L l _ S0 HW.out).mono ?_;rintro e w1 ⟨rfl,b1⟩;have S1:=aA (S0.out.on b1);have B1:=aA (aG A.out (Nat.le_refl _) b1);clear b1 S0 A HW;unfold aV;go_wp2_with fail;exact⟨rfl,rfl,S1.out,But.of B1.out⟩
 | true=>
  obtain⟨t,q,rfl⟩:∃ t q,l=t::q:=by
   cases l with
   | nil=>cases hw
   | cons t q=>exact⟨t,q,rfl⟩
  have HK:=aA (Nx H.out hw);cases hh:cD q [40] with
  | false=>
   rw [Lm hw hh];have HH:=aA hh;clear H N hC hh hw;unfold fX at *
   go_enter Tryz.func173,Tryz.ntmps173;go_wp2_with fail;refine (sW P L t q _ S0 HK.out).mono ?_;rintro e w1 ⟨rfl,s1,b1⟩;have S1:=aA s1;have B1:=aA ((But.of (P:=P) A.out).trans b1);have G1:=aA (aD G0.out b1 (by omega));have X1:=aA (aD X0.out b1 (by omega));have N1:=aA (aU (dK b1 (fun h=>F.no h.1)) N0.out);have hz1:=b1.size;simp only [World.size_alloc] at hz1;clear s1 b1 S0 A G0 X0 N0;go_wp2_with fail;refine (bI P L q ⟨#[40]⟩ _ S1 HH.out).mono ?_;rintro e w2 ⟨rfl,b2⟩;have S2:=aA (S1.out.on b2);have B2:=aA (B1.out.trans (But.of b2));have G2:=aA (aC G1.out b2);have X2:=aA (aC X1.out b2);have N2:=aA (aU (aT b2) N1.out);have hz2:=b2.size;have hg2:=aF G2.out;obtain⟨c0,c1,c2,c3,c4,c5,c6⟩:=aO X2.out;obtain⟨r0,r1,r2,r3,r4,r5,r6⟩:=aO G2.out;obtain⟨u0,u1,u2,u3,u4,u5,u6⟩:=bT G2.out;clear b2 S1 B1 G1 X1 N1 HH;go_wp2_with fail;have Z:=jI (bX hP (by omega) S2.out B2.out G2.out (.int .i64 13) (.int .i64 0) (.int .i64 0) (.string t.text) (.slice none 0 0) (.slice (some ⟨w2.heap.size,0,none⟩) 1 1) (.int .i64 0)) (.cells (fX x (.slice a1 x.names.length q1) (.slice a2 x.kids.length q2)) 26);have K:=Ny (g:=w.heap.size+1) (T:=26) (by simp) ⟨F.up _ (by omega),by omega⟩ N2.out (.int .i64 13) (.int .i64 0) (.int .i64 0) (.string t.text) (.slice none 0 0) (.slice (some ⟨w2.heap.size,0,none⟩) 1 1) (.int .i64 0);exact bodyPost_ret (cN rfl rfl Z.1) rfl ⟨⟨_,_,rfl,qG ⟨.inl ⟨_,_,rfl,rfl⟩,Ba K (fun b h1 _=>h1.1)⟩⟩,Z.2.1,Z.2.2⟩
  | true=>
   obtain⟨u,q2',rfl,hu⟩:=aY hh;rw [GY hw hu];have HU:=aA hu;have HC:=aA (fun w' F' S N'=>hC P L q2' (fun b=>ok b∧b≠w.heap.size+1) x (.slice a1 x.names.length q1) (.slice a2 x.kids.length q2) w' (by simp at hf;omega) F' S N');clear H N hC hh hu hw;unfold gF at HC;unfold fX at *
   cases hq:jO f [x] q2' with
   | bad l'=>
    rw [hq] at HC;rw [PL.bind_bad];go_enter Tryz.func173,Tryz.ntmps173;go_wp2_with fail;refine (sW P L t (u::q2') _ S0 HK.out).mono ?_;rintro e w1 ⟨rfl,s1,b1⟩;have S1:=aA s1;have B1:=aA ((But.of (P:=P) A.out).trans b1);have G1:=aA (aD G0.out b1 (by omega));have X1:=aA (aD X0.out b1 (by omega));have N1:=aA (aU (dK b1 (fun h=>F.no h.1)) N0.out);have hz1:=b1.size;simp only [World.size_alloc] at hz1;clear s1 b1 S0 A G0 X0 N0;go_wp2_with fail;refine (cT P L u q2' ⟨#[40]⟩ _ S1 HU.out).mono ?_;rintro e w2 ⟨rfl,s2,b2⟩;have S2:=aA s2;have B2:=aA (B1.out.trans b2);have G2:=aA (aD G1.out b2 (by omega));have X2:=aA (aD X1.out b2 (by omega));have N2:=aA (aU (dK b2 (fun h=>F.no h.1)) N1.out);have hz2:=b2.size;obtain⟨c0,c1,c2,c3,c4,c5,c6⟩:=aO X2.out;clear s2 b2 S1 B1 G1 X1 N1 HU;go_wp2_with fail;refine (HC.out _ ⟨fun b hb=>⟨F.up b (by omega),by omega⟩,fun h=>F.no h.1⟩ S2 N2).mono ?_;rintro e w3 ⟨rfl,s3,b3⟩;have S3:=aA s3;have B3:=aA (B2.out.trans b3);clear s3 b3 S2 B2 G2 X2 N2 HC;unfold aV;go_wp2_with fail;exact⟨rfl,rfl,S3.out,B3.out⟩
   | ok ns ks l'=>
    rw [hq] at HC;rw [PL.bind_ok];go_enter Tryz.func173,Tryz.ntmps173;go_wp2_with fail;refine (sW P L t (u::q2') _ S0 HK.out).mono ?_;rintro e w1 ⟨rfl,s1,b1⟩;have S1:=aA s1;have B1:=aA ((But.of (P:=P) A.out).trans b1);have G1:=aA (aD G0.out b1 (by omega));have X1:=aA (aD X0.out b1 (by omega));have N1:=aA (aU (dK b1 (fun h=>F.no h.1)) N0.out);have hz1:=b1.size;simp only [World.size_alloc] at hz1;clear s1 b1 S0 A G0 X0 N0;go_wp2_with fail;refine (cT P L u q2' ⟨#[40]⟩ _ S1 HU.out).mono ?_;rintro e w2 ⟨rfl,s2,b2⟩;have S2:=aA s2;have B2:=aA (B1.out.trans b2);have G2:=aA (aD G1.out b2 (by omega));have X2:=aA (aD X1.out b2 (by omega));have N2:=aA (aU (dK b2 (fun h=>F.no h.1)) N1.out);have hz2:=b2.size;obtain⟨c0,c1,c2,c3,c4,c5,c6⟩:=aO X2.out;clear s2 b2 S1 B1 G1 X1 N1 HU;go_wp2_with fail;refine (HC.out _ ⟨fun b hb=>⟨F.up b (by omega),by omega⟩,fun h=>F.no h.1⟩ S2 N2).mono ?_;rintro e w3 ⟨⟨kv3,rfl,k3⟩,s3,b3⟩;obtain⟨f1,g1,rfl⟩:=yG k3;have S3:=aA s3;have B3:=aA (B2.out.trans b3);have G3:=aA (aD G2.out b3 (by omega));have K3:=aA k3;have hg3:=aF G3.out;obtain⟨r0,r1,r2,r3,r4,r5,r6⟩:=aO G3.out;obtain⟨u0,u1,u2,u3,u4,u5,u6⟩:=bT G3.out;clear s3 b3 k3 S2 B2 G2 X2 N2 HC;go_wp2_with fail;have Z:=bX hP (by omega) S3.out B3.out G3.out (.int .i64 16) (.int .i64 0) (.int .i64 0) (.string t.text) (.slice none 0 0) (.slice f1 ks.length g1) (.int .i64 0);exact bodyPost_ret (cN rfl rfl Z.1) rfl ⟨⟨_,_,rfl,qG ⟨.inl ⟨_,_,rfl,rfl⟩,Ba (nW (fD _ (by simp) _ _ _ _ _ _ _) K3.out) (fun b h1 _=>h1.1)⟩⟩,Z.2.1,Z.2.2⟩
inductive Pc where
 | bl
 | tk (t:Tok)
def Pc.text:Pc→List UInt8
 | .bl=>[32]
 | .tk t=>eP t
def laid (l:List Pc):List UInt8:=l.flatMap Pc.text
def aK:List Pc→List Tok
 | []=>[]
 | .bl::r=>aK r
 | .tk t::r=>t::aK r
theorem mY:laid []=[]:=rfl
theorem bO (p:Pc) (r:List Pc):laid (p::r)=p.text++laid r:=by simp [laid]
theorem cI (a b:List Pc):laid (a++b)=laid a++laid b:=by simp [laid]
theorem bB:∀ a b:List Pc,aK (a++b)=aK a++aK b
 | [],b=>rfl
 | .bl::r,b=>by show aK (r++b)=aK r++aK b;exact bB r b
 | .tk t::r,b=>by show t::aK (r++b)=t::aK r++aK b;rw [bB r b];rfl
def sN (x:List UInt8):Tok:=⟨2,⟨x.toArray⟩,0,0⟩
def dB (x:List UInt8):Tok:=⟨5,⟨x.toArray⟩,0,0⟩
def Ea (s:ByteArray):Tok:=⟨1,s,0,0⟩
def Cs (s:ByteArray):Tok:=⟨if iW s.data.toList then 2 else 1,s,0,0⟩
def kw (x:List UInt8):Pc:=.tk (sN x)
def sg (x:List UInt8):Pc:=.tk (dB x)
def nm (s:ByteArray):Pc:=.tk (Ea s)
def pp (s:ByteArray):Pc:=.tk (Cs s)
theorem kN (x:List UInt8):(kw x).text=x:=by simp [kw,sN,Pc.text,eP]
theorem gU (x:List UInt8):(sg x).text=x:=by simp [sg,dB,Pc.text,eP]
theorem rX (s:ByteArray):(nm s).text=s.data.toList:=by simp [nm,Ea,Pc.text,eP]
theorem At (s:ByteArray):(pp s).text=s.data.toList:=by
 unfold pp Cs Pc.text eP;cases iW s.data.toList<;>rfl
theorem jJ:Pc.bl.text=[32]:=rfl
structure Px where
 kind:Int
 rank:Int
 e:List Pc
 s:List Pc
 b:List Pc
 has:Bool
def Px.tx (x:Px):Tx:=⟨x.kind,x.rank,laid x.e,laid x.s,laid x.b,x.has⟩
def Px.none:Px:=⟨0,0,[],[],[],false⟩
def Ou (k n:Int) (s:ByteArray):Pc:=
 if k=1 then kw [110,117,108,108] else if k=6 then kw [116,104,105,115] else if k=2 then (if n=0 then kw [102,97,108,115,101] else kw [116,114,117,101])
 else if k=3 then .tk ⟨3,⟨(digs n).toArray⟩,n,0⟩ else if k=4 then .tk ⟨4,s,0,0⟩ else nm s
def iQ (x:Px) (least:Int):List Pc:=if least≤x.rank then x.e else sg [40]::(x.e++[sg [41]])
def fV (l:List Px):List Pc:=l.flatMap fun x=>sg [44] :: .bl::x.e
def nG:List Px→List Pc
 | []=>[]
 | x::r=>x.e++fV r
def lH (l:List Px):List Pc:=sg [40]::(nG l++[sg [41]])
def tN (s:ByteArray) (x:Px):List Pc:=pp s::sg [58] :: .bl::x.e
def fW:List ByteArray→List Px→List Pc
 | s::ns,x::r=>sg [44] :: .bl::(tN s x++fW ns r)
 | _,_=>[]
def yS:List ByteArray→List Px→List Pc
 | s::ns,x::r=>sg [123]::(tN s x++fW ns r++[sg [125]])
 | _,_=>[sg [123],sg [125]]
def mZ (ns:List ByteArray):List Pc:=ns.flatMap fun x=>[sg [44],.bl,nm x]
def oJ:List ByteArray→List Pc
 | []=>[]
 | s::r=>nm s::mZ r
def fO (l:List Px):List Pc:=l.flatMap fun x=>.bl::x.s
def blockC (l:List Px):List Pc:=sg [123]::(fO l++(if l.isEmpty then [sg [125]] else [.bl,sg [125]]))
def rB:List Px→List Pc
 | []=>[]
 | x::r=>x.s++fO r
def tO (x:Px) (s:ByteArray):List Pc:=iQ x 8++[sg [46],pp s]
def nA (x y:Px):List Pc:=iQ x 8++(sg [91]::(y.e++[sg [93]]))
def hX (x:Px):List Pc:=.bl::sg [61] :: .bl::x.e
def lR (r:Int) (g:List UInt8) (x y:Px):List Pc:=iQ x r++(.bl::sg g :: .bl::iQ y (r+1))
def c0 (l:List Px):Px:=l.getD 0 Px.none
def c1 (l:List Px):Px:=l.getD 1 Px.none
def c2 (l:List Px):Px:=l.getD 2 Px.none
def exprC (k o n:Int) (s:ByteArray) (ns:List ByteArray) (l:List Px):List Pc:=
 if k=7 then yS ns l
 else if k=8 then kw [102,110]::sg [40]::(oJ ns++(sg [41] :: .bl::blockC l))
 else if k=9 then sg [if o=1 then 45 else 33]::iQ (c0 l) 7
 else if k=10 then lR (rankT 10 o) (signT o) (c0 l) (c1 l)
 else if k=11 then lR 2 [38,38] (c0 l) (c1 l)
 else if k=12 then lR 1 [124,124] (c0 l) (c1 l)
 else if k=13 then tO (c0 l) s
 else if k=14 then nA (c0 l) (c1 l)
 else if k=15 then iQ (c0 l) (if (c0 l).kind=13 then 9 else 8)++lH l.tail
 else if k=16 then tO (c0 l) s++lH l.tail
 else if k=17 then kw (builtT o).1::lH l
 else [Ou k n s]
def IM (k:Int) (s:ByteArray) (l:List Px):List Pc:=
 if k=21 then kw [108,101,116] :: .bl::nm s::hX (c0 l)
 else if k=22 then nm s::hX (c0 l)
 else if k=23 then tO (c0 l) s++hX (c1 l)
 else if k=24 then nA (c0 l) (c1 l)++hX (c2 l)
 else if k=25 then kw [100,101,108,101,116,101] :: .bl::tO (c0 l) s
 else if k=26 then kw [100,101,108,101,116,101] :: .bl::nA (c0 l) (c1 l)
 else if k=27 then kw [112,114,105,110,116] :: .bl::(c0 l).e
 else if k=31 then kw [114,101,116,117,114,110] :: .bl::(c0 l).e
 else if k=32 then (c0 l).e else []
def lW (key:List UInt8) (x y:Px):List Pc:=kw key :: .bl::sg [40]::(x.e++(sg [41] :: .bl::y.b))
def stmtC (k:Int) (s:ByteArray) (l:List Px):List Pc:=
 if k=28 then lW [105,102] (c0 l) (c1 l)++(if (c2 l).has then .bl::kw [101,108,115,101] :: .bl::(c2 l).b else [])
 else if k=30 then lW [119,104,105,108,101] (c0 l) (c1 l)
 else IM k s l++[sg [59]]
mutual
def pcN:Nd→Px
 | .mk k o n s ns ks _=>⟨k,rankT k o,exprC k o n s ns (RC ks),stmtC k s (RC ks),blockC (RC ks),!ks.isEmpty⟩
def RC:List Nd→List Px
 | []=>[]
 | x::r=>pcN x::RC r
end
theorem JZ:∀ l:List Nd,RC l=l.map pcN
 | []=>by rw [RC];rfl
 | x::r=>by rw [RC,JZ r];rfl
theorem cM (k o n:Int) (s:ByteArray) (ns:List ByteArray) (ks:List Nd) (p:Int) :
  pcN (.mk k o n s ns ks p)=⟨k,rankT k o,exprC k o n s ns (ks.map pcN),stmtC k s (ks.map pcN),blockC (ks.map pcN),!ks.isEmpty⟩:=by
 rw [pcN,JZ]
theorem Eb (l:List Px) (i:Nat):(l.map Px.tx).getD i Tx.none=(l.getD i Px.none).tx:=by
 rw [List.getD_eq_getElem?_getD,List.getD_eq_getElem?_getD,List.getElem?_map];cases l[i]?<;>rfl
theorem Ov (l:List Px):sM (l.map Px.tx)=(c0 l).tx:=Eb l 0
theorem Ow (l:List Px):Cr (l.map Px.tx)=(c1 l).tx:=Eb l 1
theorem QW (l:List Px):Ot (l.map Px.tx)=(c2 l).tx:=Eb l 2
theorem Mr (k n:Int) (s:ByteArray):(Ou k n s).text=iU k n s:=by
 unfold Ou iU;split
 ·rw [kN]
 split
 ·rw [kN]
 split
 ·split<;>rw [kN]
 split
 ·simp [Pc.text,eP]
 split
 ·simp [Pc.text,eP]
 ·rw [rX]
theorem nR (x:Px) (r:Int):laid (iQ x r)=cG x.tx r:=by
 unfold iQ cG;show laid (if r≤x.rank then x.e else _)=if r≤x.rank then laid x.e else _
 split
 ·rfl
 ·simp [bO,cI,gU,mY,Px.tx]
theorem zY:∀ l:List Px,laid (fV l)=nZ (l.map Px.tx)
 | []=>rfl
 | x::r=>by
  have:=zY r;simp only [fV,nZ,List.flatMap_cons,List.map_cons,cI,bO,gU,jJ] at *
  rw [this];simp [Px.tx]
theorem Ms (l:List Px):laid (nG l)=jU (l.map Px.tx):=by
 cases l with
 | nil=>rfl
 | cons x r=>rw [nG,List.map_cons,jU,cI,zY];rfl
theorem yT (l:List Px):laid (lH l)=jE (l.map Px.tx):=by
 unfold lH jE;rw [bO,cI,Ms,bO,gU,gU];rfl
theorem zZ:∀ (ns:List ByteArray) (l:List Px),laid (fW ns l)=iE ns (l.map Px.tx)
 | [],l=>by cases l<;>rfl
 | s::ns,[]=>rfl
 | s::ns,x::r=>by
  rw [fW,List.map_cons,iE,← zZ ns r];simp [bO,cI,gU,At,jJ,tN,nP,Px.tx]
theorem Ox (ns:List ByteArray) (l:List Px):laid (yS ns l)=pZ ns (l.map Px.tx):=by
 cases ns with
 | nil=>cases l<;>simp [yS,pZ,bO,gU,mY]
 | cons s ns=>
  cases l with
  | nil=>simp [yS,pZ,bO,gU,mY]
  | cons x r=>
   rw [yS,List.map_cons,pZ,← zZ ns r];simp [bO,cI,gU,At,jJ,tN,nP,Px.tx,mY]
theorem Mt (ns:List ByteArray):laid (oJ ns)=oI ns:=by
 cases ns with
 | nil=>rfl
 | cons s r=>
  rw [oJ,oI,bO,rX];congr 1;induction r with
  | nil=>rfl
  | cons y r ih=>simp only [mZ,List.flatMap_cons,cI,bO,gU,jJ,rX] at *;rw [ih];simp [mY]
theorem tP:∀ l:List Px,laid (fO l)=fU (l.map Px.tx)
 | []=>rfl
 | x::r=>by
  have:=tP r;simp only [fO,fU,List.flatMap_cons,List.map_cons,cI,bO,jJ] at *
  rw [this];simp [Px.tx]
theorem BA (l:List Px):laid (blockC l)=blockT (l.map Px.tx):=by
 unfold blockC blockT;rw [bO,cI,tP,gU];cases l<;>simp [bO,mY,gU,jJ]
theorem Ec (l:List Px):laid (rB l)=dX (l.map Px.tx):=by
 cases l with
 | nil=>rfl
 | cons x r=>rw [rB,List.map_cons,dX,cI,tP];rfl
theorem xH (x:Px) (s:ByteArray):laid (tO x s)=lQ x.tx s:=by
 unfold tO lQ;rw [cI,nR];simp [bO,mY,gU,At]
theorem vT (x y:Px):laid (nA x y)=hM x.tx y.tx:=by
 unfold nA hM;rw [cI,nR];simp [bO,mY,cI,gU,Px.tx]
theorem oU (x:Px):laid (hX x)=dC x.tx:=by
 unfold hX dC;simp [bO,gU,jJ,Px.tx]
theorem rY (r:Int) (g:List UInt8) (x y:Px):laid (lR r g x y)=fT r g x.tx y.tx:=by
 unfold lR fT;rw [cI,nR];simp [bO,nR,gU,jJ]
theorem Mu (k o n:Int) (s:ByteArray) (ns:List ByteArray) (l:List Px):laid (exprC k o n s ns l)=exprT k o n s ns (l.map Px.tx):=by
 unfold exprC exprT;rw [Ov,Ow];by_cases h7:k=7
 ·rw [if_pos h7,if_pos h7];exact Ox ns l
 rw [if_neg h7,if_neg h7];by_cases h8:k=8
 ·rw [if_pos h8,if_pos h8];simp [bO,cI,kN,gU,jJ,Mt,BA]
 rw [if_neg h8,if_neg h8];by_cases h9:k=9
 ·rw [if_pos h9,if_pos h9];rw [bO,nR,gU];rfl
 rw [if_neg h9,if_neg h9];by_cases h10:k=10
 ·rw [if_pos h10,if_pos h10];exact rY _ _ _ _
 rw [if_neg h10,if_neg h10];by_cases h11:k=11
 ·rw [if_pos h11,if_pos h11];exact rY _ _ _ _
 rw [if_neg h11,if_neg h11];by_cases h12:k=12
 ·rw [if_pos h12,if_pos h12];exact rY _ _ _ _
 rw [if_neg h12,if_neg h12];by_cases h13:k=13
 ·rw [if_pos h13,if_pos h13];exact xH _ _
 rw [if_neg h13,if_neg h13];by_cases h14:k=14
 ·rw [if_pos h14,if_pos h14];exact vT _ _
 rw [if_neg h14,if_neg h14];by_cases h15:k=15
 ·rw [if_pos h15,if_pos h15];rw [cI,nR,yT,List.map_tail];rfl
 rw [if_neg h15,if_neg h15];by_cases h16:k=16
 ·rw [if_pos h16,if_pos h16];rw [cI,xH,yT,List.map_tail]
 rw [if_neg h16,if_neg h16];by_cases h17:k=17
 ·rw [if_pos h17,if_pos h17];rw [bO,yT,kN]
 rw [if_neg h17,if_neg h17];rw [bO,Mr,mY,List.append_nil]
theorem IN (k:Int) (s:ByteArray) (l:List Px):laid (IM k s l)=By k s (l.map Px.tx):=by
 unfold IM By;rw [Ov,Ow,QW];by_cases h21:k=21
 ·rw [if_pos h21,if_pos h21];simp [bO,kN,rX,jJ,oU]
 rw [if_neg h21,if_neg h21];by_cases h22:k=22
 ·rw [if_pos h22,if_pos h22];simp [bO,rX,oU]
 rw [if_neg h22,if_neg h22];by_cases h23:k=23
 ·rw [if_pos h23,if_pos h23];rw [cI,xH,oU]
 rw [if_neg h23,if_neg h23];by_cases h24:k=24
 ·rw [if_pos h24,if_pos h24];rw [cI,vT,oU]
 rw [if_neg h24,if_neg h24];by_cases h25:k=25
 ·rw [if_pos h25,if_pos h25];simp [bO,kN,jJ,xH]
 rw [if_neg h25,if_neg h25];by_cases h26:k=26
 ·rw [if_pos h26,if_pos h26];simp [bO,kN,jJ,vT]
 rw [if_neg h26,if_neg h26];by_cases h27:k=27
 ·rw [if_pos h27,if_pos h27];simp [bO,kN,jJ,Px.tx]
 rw [if_neg h27,if_neg h27];by_cases h31:k=31
 ·rw [if_pos h31,if_pos h31];simp [bO,kN,jJ,Px.tx]
 rw [if_neg h31,if_neg h31];by_cases h32:k=32
 ·rw [if_pos h32,if_pos h32];rfl
 rw [if_neg h32,if_neg h32];rfl
theorem Mv (k:Int) (s:ByteArray) (l:List Px):laid (stmtC k s l)=stmtT k s (l.map Px.tx):=by
 have br:∀ key x y,laid (lW key x y)=dR key x.tx y.tx:=by
  intro key x y;simp [lW,dR,bO,cI,kN,gU,jJ,Px.tx]
 unfold stmtC stmtT;rw [Ov,Ow,QW];split
 ·rw [cI,br];congr 1;show _=if (c2 l).has=true then _ else _
  split
  ·simp [bO,kN,jJ,Px.tx]
  ·rfl
 split
 ·exact br _ _ _
 ·rw [cI,IN,bO,gU];rfl
theorem RD (t:Nd):(pcN t).tx=textN t:=by
 refine Nd.ind (P:=fun t=>(pcN t).tx=textN t) ?_ t;intro k o n s ns ks p ih;have e:(ks.map pcN).map Px.tx=ks.map textN:=by rw [List.map_map];exact List.map_congr_left ih
 rw [cM,mX];show Tx.mk _ _ _ _ _ _=_;rw [Mu,Mv,BA,e]
def tQ (t:Nd):List Pc:=rB (t.kids.map pcN)
theorem IO (t:Nd):laid (tQ t)=nQ t:=by
 unfold tQ nQ;rw [Ec,List.map_map];congr 1;exact List.map_congr_left fun x _=>RD x
def kD (c:UInt8):Bool:=!dS c.toNat&&(c != 61&&c != 47)
def tR (t:Tok) (c:UInt8):Bool:=if t.kind=4 then true else if t.kind=5 then (c != 61&&c != 47) else !dS c.toNat
theorem uO {t:Tok} {c:UInt8} (h:kD c=true):tR t c=true:=by
 simp only [kD,Bool.and_eq_true] at h;unfold tR;split
 ·rfl
 split
 ·simp [h.2.1,h.2.2]
 ·exact h.1
def cQ (p:UInt8→Bool) (l:List UInt8):Prop:=∀ c r,l=c::r→p c=true
theorem fM (p:UInt8→Bool):cQ p []:=by intro c r h;cases h
theorem mI {p:UInt8→Bool} {c:UInt8} {r:List UInt8} (h:p c=true):cQ p (c::r):=by intro c' r' e;injection e with e1 e2;subst e1;exact h
theorem yU {p:Nat→Bool} {R:List UInt8} (hR:cQ (fun c=>!p c.toNat) R):∀ x:List UInt8,(∀ b∈x,p b.toNat=true)→jH p (x++R)=x.length
 | [],_=>by
  cases R with
  | nil=>rfl
  | cons c r=>have:=hR c r rfl;simp at this;simp [jH,this]
 | b::x,h=>by
  have h1:=h b (by simp);have h2:=yU hR x (fun y hy=>h y (by simp [hy]));simp [jH,h1,h2]
theorem Oy (x:List UInt8) (h:x∈sgnL) (R:List UInt8) (hR:cQ (fun c=>c != 61&&c != 47) R) (k:Nat):cA (x++R) k=(⟨5,⟨x.toArray⟩,0,k⟩,k+x.length,0):=by
 have key:∀ x∈sgnL,(∀ k,cA x k=(⟨5,⟨x.toArray⟩,0,k⟩,k+x.length,0)):=by
  intro x hx k;simp only [sgnL,List.mem_cons,List.not_mem_nil,or_false] at hx;rcases hx with rfl | rfl | rfl | rfl | rfl | rfl | rfl | rfl | rfl | rfl | rfl | rfl | rfl | rfl | rfl | rfl | rfl | rfl | rfl | rfl | rfl | rfl | rfl | rfl | rfl<;>rfl
 cases R with
 | nil=>rw [List.append_nil];exact key x h k
 | cons c r=>
  have hc:=hR c r rfl;simp only [Bool.and_eq_true,bne_iff_ne] at hc;have h61:(61==c)=false:=by rw [beq_eq_false_iff_ne];exact fun e=>hc.1 e.symm
  have h61':(c==61)=false:=by rw [beq_eq_false_iff_ne];exact hc.1
  simp only [sgnL,List.mem_cons,List.not_mem_nil,or_false] at h;rcases h with rfl | rfl | rfl | rfl | rfl | rfl | rfl | rfl | rfl | rfl | rfl | rfl | rfl | rfl | rfl | rfl | rfl | rfl | rfl | rfl | rfl | rfl | rfl | rfl | rfl<;>
   first
   | rfl
   | simp [cA,kK,signL,sgnL,fB,List.isPrefixOf,h61,aW,bA]
theorem xI {t:Tok} (hr:cS t=true) (h6:t.kind≠6) (R:List UInt8) (hR:cQ (tR t) R) (k:Nat):cA (eP t++R) k=(t.put k,k+(eP t).length,0):=by
 obtain⟨kd,x,n,p⟩:=t;simp only at h6;unfold cS at hr;simp only at hr;by_cases h3:kd=3
 ·subst h3;rw [if_pos rfl,Bool.and_eq_true,Bool.and_eq_true,decide_eq_true_iff,decide_eq_true_iff,beq_iff_eq] at hr;obtain⟨n0,n1,hx⟩:=hr;have hb:=Qa n0 n1;have hall:(digs n).all jC=true:=by
   unfold digs;rw [if_neg (by omega)];exact Aq _ _
  have hd:∀ b∈digs n,bA b.toNat=true:=by
   intro b hb;have:=List.all_eq_true.1 hall b hb;simp [jC] at this;simp [bA];omega
  have ht:eP ⟨3,x,n,p⟩=digs n:=by unfold eP;rw [if_neg (by simp)];exact hx
  have hxb:x=⟨(digs n).toArray⟩:=by rw [← hx,tD]
  have hR':cQ (fun c=>!bA c.toNat) R:=by
   intro c r e;have:=hR c r e;simp [tR,dS] at this;simp [this.2]
  rw [ht];have hne:digs n≠[]:=by unfold digs;rw [if_neg (by omega)];exact Oe _ _
  cases hdg:digs n with
  | nil=>exact absurd hdg hne
  | cons b y=>
   have hb1:=hd b (by rw [hdg];simp);have ho:cA (b::y++R) k=iB (b::y++R) k:=by
    show cA (b::(y++R)) k=iB (b::(y++R)) k;unfold cA;simp only;rw [if_neg (by rw [DK hb1];decide),if_pos hb1]
   rw [ho,← hdg];unfold iB;rw [yU hR' _ hd,Fm,hb,if_pos rfl];simp [Tok.put,hxb]
 ·rw [if_neg h3] at hr;by_cases hn:n=0
  ·subst hn;rw [if_pos rfl] at hr;by_cases h4:kd=4
   ·subst h4;simp at hr;have ht:eP ⟨4,x,0,p⟩=lI x.data.toList:=by unfold eP;rw [if_pos rfl]
    rw [ht];have ho:cA (lI x.data.toList++R) k=jX (lI x.data.toList++R) k:=rfl;rw [ho];unfold jX;rw [AD];simp only;rw [if_pos trivial,if_neg (by rw [cB];omega),tD];rfl
   ·have ht:eP ⟨kd,x,0,p⟩=x.data.toList:=by unfold eP;rw [if_neg h4]
    rw [ht];by_cases h5:kd=5
    ·subst h5;simp at hr;have hR':cQ (fun c=>c != 61&&c != 47) R:=by
      intro c r e;have:=hR c r e;simpa [tR] using this
     rw [Oy _ hr R hR',tD];rfl
    have hR':cQ (fun c=>!dS c.toNat) R:=by
     intro c r e;have:=hR c r e;simpa [tR,h4,h5] using this
    have hw:∀ y:List UInt8,(∀ b∈y,dS b.toNat=true)→hD (y++R) k=if iW y then (⟨2,⟨y.toArray⟩,0,k⟩,k+y.length,0) else if nameB y then (⟨1,⟨y.toArray⟩,0,k⟩,k+y.length,0) else (Tok.zero,k,11):=by
     intro y hy;unfold hD;rw [yU hR' y hy,Fm]
    by_cases h1:kd=1
    ·subst h1;simp at hr;obtain⟨b,y,hx,hl,hwd⟩:=vQ hr.1;rw [hx,Fo hl,← hx,hw _ hwd,hr.2,if_neg (by decide),hr.1,if_pos rfl,tD];rfl
    ·by_cases h2:kd=2
     ·subst h2;simp at hr;obtain⟨b,y,hx,hl,hwd⟩:=Ma _ (List.contains_iff_mem.1 hr);rw [hx,Fo hl,← hx,hw _ hwd,hr,if_pos rfl,tD];rfl
     ·rw [if_neg h1,if_neg h2,if_neg h4,if_neg h5,if_neg h6] at hr;cases hr
  ·rw [if_neg hn] at hr;cases hr
def gV:List Pc→Prop
 | []=>True
 | .bl::r=>gV r
 | .tk t::r=>cS t=true∧t.kind≠6∧cQ (tR t) (laid r)∧gV r
theorem Ed {t:Tok} (hr:cS t=true) (h6:t.kind≠6):eP t≠[]:=by
 intro e;have h:=xI hr h6 [] (fM _) 0;rw [e] at h;have:=congrArg (fun o:TokOut=>o.2.2) h;simp [cA] at this
theorem Mw {t:Tok} (hr:cS t=true) (h6:t.kind≠6):cQ (fun c=>!gE c.toNat) (eP t):=by
 intro c r e;have h:=xI hr h6 [] (fM _) 0;rw [List.append_nil,e] at h;cases hq:gE c.toNat with
 | false=>show (!gE c.toNat)=true;rw [hq];rfl
 | true=>have:=Mb (y:=r) (k:=0) hq;rw [h] at this;cases this
theorem IP {t:Tok} (hr:cS t=true) (h6:t.kind≠6) {R:List UInt8} (hR:cQ (tR t) R):fA (eP t++R)=false:=by
 cases hq:fA (eP t++R) with
 | false=>rfl
 | true=>
  have h:=xI hr h6 R hR 0;cases hl:eP t++R with
  | nil=>rw [hl] at hq;cases hq
  | cons b y=>
   rw [hl] at h hq;cases y with
   | nil=>cases hq
   | cons c z=>
    simp [fA] at hq;have e1:b=47:=UInt8.toNat_inj.1 hq.1;have e2:c=47:=UInt8.toNat_inj.1 hq.2;subst e1 e2;have h1:cA (47::47::z) 0=(⟨5,⟨#[47]⟩,0,(0:Nat)⟩,1,0):=rfl;rw [h1] at h;have h2:(eP t).length=1:=by
     have:=congrArg (fun o:TokOut=>o.2.1) h;simp at this;omega
    have h5:t.kind=5:=by
     have:=congrArg (fun o:TokOut=>o.1.kind) h;simp [Tok.put] at this;omega
    obtain⟨a,ha⟩:=List.length_eq_one_iff.1 h2;rw [ha] at hl;simp at hl;have:=hR 47 z hl.2;simp [tR,h5] at this
def kX:List Pc→List Pc
 | .bl::r=>kX r
 | l=>l
theorem Dd:∀ (l:List Pc),gV l→kC false (laid l)=(laid l).length - (laid (kX l)).length∧(laid (kX l)).length≤(laid l).length∧(laid l).drop ((laid l).length - (laid (kX l)).length)=laid (kX l)
 | [],_=>by simp [kX,laid,kC]
 | .bl::r,h=>by
  obtain⟨h1,h2,h3⟩:=Dd r h;have e:laid (.bl::r)=32::laid r:=by rw [bO];rfl
  have hs:fA (32::laid r)=false:=by cases laid r<;>simp [fA]
  have hsk:kX (.bl::r)=kX r:=rfl;rw [e,hsk];refine⟨?_,by simp;omega,?_⟩
  ·simp [kC,hs,h1,gE];omega
  ·rw [show (32::laid r).length - (laid (kX r)).length=((laid r).length - (laid (kX r)).length)+1 by simp;omega];simpa using h3
 | .tk t::r,h=>by
  obtain⟨hr,h6,hR,_⟩:=h;have hsk:kX (.tk t::r)=.tk t::r:=rfl;rw [hsk];refine⟨?_,Nat.le_refl _,by simp⟩;rw [Nat.sub_self,bO];show kC false (eP t++laid r)=0;have h1:=IP hr h6 hR;have h2:=Mw hr h6;have h3:=Ed hr h6;cases ht:eP t with
  | nil=>exact absurd ht h3
  | cons c y=>
   have hb:=h2 c y ht;rw [ht] at h1;simp only [List.cons_append] at h1 ⊢;simp only [Bool.not_eq_true'] at hb;simp [kC,h1,hb]
theorem pS:∀ l:List Pc,aK (kX l)=aK l
 | []=>rfl
 | .bl::r=>pS r
 | .tk _::_=>rfl
theorem vU:∀ {l:List Pc},gV l→gV (kX l)
 | [],h=>h
 | .bl::r,h=>vU (l:=r) h
 | .tk _::_,h=>h
end Go.Proofs.YtdnnmjhfidimcaaGreatDoor
