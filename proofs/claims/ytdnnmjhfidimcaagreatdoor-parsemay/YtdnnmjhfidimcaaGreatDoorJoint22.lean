/- The plain parser's lists as lists with a closure. A list with a closure. An object. -/
import Derived.Test.YtdnnmjhfidimcaaGreatDoorPsObj1
import Derived.Test.YtdnnmjhfidimcaaGreatDoorJoint17
import Derived.Test.YtdnnmjhfidimcaaGreatDoorJoint19
namespace Go.Proofs.YtdnnmjhfidimcaaGreatDoor
set_option maxRecDepth 100000
set_option maxHeartbeats 12800000
open Go.RowKit
def PG.toL:PG (List ByteArray×List Nd)→PL
 | .ok s l=>.ok s.1 s.2 l
 | .bad l=>.bad l
theorem rT (en:UInt8) (ns:List ByteArray) (ks:List Nd) (l:List Tok):PG.toL (Ab en (ns,ks) l)=mustL [en] l fun l=>.ok ns ks l:=by
 unfold Ab Go.Proofs.YtdnnmjhfidimcaaGreatDoor.mustL;split<;>rfl
theorem Ad (f:Nat) (ns:List ByteArray) (ks:List Nd) (l:List Tok) (k:List ByteArray×List Nd→List Tok→PG (List ByteArray×List Nd)) (h:∀ ns ks l,lW f ns ks l=PG.toL (k (ns,ks) l)) :
  kH (f+1) ns ks l=PG.toL ((kW f (ns,ks) l).bind k):=by
 rw [kH];unfold Go.Proofs.YtdnnmjhfidimcaaGreatDoor.wordL Go.Proofs.YtdnnmjhfidimcaaGreatDoor.mustL kW;by_cases hw:qC true l=true
 ·simp only [if_pos hw];by_cases hh:bZ l.tail [58]=true
  ·simp only [if_pos hh];cases aS f 1 l.tail.tail with
   | bad m=>rfl
   | ok x b m=>rw [PR.bindL_ok,h];rfl
  ·simp only [if_neg hh];rfl
 ·simp only [if_neg hw];rfl
theorem Iz:∀ (f:Nat) (ns:List ByteArray) (ks:List Nd) (l:List Tok),lW f ns ks l=PG.toL (kJ kW (fun s=>s.2.length) 40 125 f (ns,ks) l)
 | 0,ns,ks,l=>by rw [lW,kJ];rfl
 | 1,ns,ks,l=>by
  rw [lW,kJ];split
  ·rw [kH];rfl
  ·rw [rT]
 | f+2,ns,ks,l=>by
  rw [lW,kJ];split
  ·exact Ad f ns ks _ _ (fun ns ks l=>Iz f ns ks l)
  ·rw [rT]
theorem PQ (f:Nat) (l:List Tok):tO (f+2) l=PG.toL (tS kW (fun s=>s.2.length) 40 125 f ([],[]) l):=by
 rw [tO];unfold tS;split
 ·rfl
 ·exact Ad f [] [] l _ (fun ns ks l=>Iz f ns ks l)
theorem Mz:∀ (k:Nat) (ns:List ByteArray) (l:List Tok) (f:Nat),ns.length+(k+1)=6→2*k+1≤f→
  tX (k+1) ns l=PG.toL ((gY f (ns,[]) l).bind fun s l=>kJ gY (fun s=>s.1.length) 6 41 f s l)
 | 0,ns,l,f,hn,hf=>by
  rw [tX];unfold Go.Proofs.YtdnnmjhfidimcaaGreatDoor.wordL;by_cases hw:qC false l=true
  ·have e:gY f (ns,[]) l=.ok (ns++[(cur l).text],[]) l.tail:=by unfold gY;rw [if_pos hw]
   simp only [if_pos hw];rw [e,PG.bind_ok];obtain⟨f,rfl⟩:∃ g,f=g+1:=⟨f - 1,by omega⟩
   rw [if_neg (by simp)];have hc:¬ ((ns++[(cur l).text]).length<6∧bZ l.tail [44]=true):=by simp;omega
   cases f with
   | zero=>rw [kJ,if_neg hc,rT]
   | succ f=>rw [kJ,if_neg hc,rT]
  ·have e:gY f (ns,[]) l=.bad l:=by unfold gY;rw [if_neg hw]
   rw [if_neg hw,e];rfl
 | k+1,ns,l,f,hn,hf=>by
  rw [tX];unfold Go.Proofs.YtdnnmjhfidimcaaGreatDoor.wordL;by_cases hw:qC false l=true
  ·have e:gY f (ns,[]) l=.ok (ns++[(cur l).text],[]) l.tail:=by unfold gY;rw [if_pos hw]
   simp only [if_pos hw];rw [e,PG.bind_ok];obtain⟨f,rfl⟩:∃ g,f=g+2:=⟨f - 2,by omega⟩
   by_cases hh:bZ l.tail [44]=true
   ·rw [if_pos ⟨by omega,hh⟩,kJ,if_pos ⟨by simp;omega,hh⟩];exact Mz k _ _ f (by simp;omega) (by omega)
   ·rw [if_neg (fun h=>hh h.2),kJ,if_neg (fun h=>hh h.2),rT]
  ·rw [if_neg hw];have e:gY f (ns,[]) l=.bad l:=by unfold gY;rw [if_neg hw]
   rw [e];rfl
theorem Oq (f:Nat) (hf:11≤f) (l:List Tok):rC l=PG.toL (tS gY (fun s=>s.1.length) 6 41 f ([],[]) l):=by
 unfold rC tS;split
 ·rfl
 ·exact Mz 5 [] l f (by simp) (by omega)
set_option linter.unusedVariables false in
theorem CF (N:Nat) (hcf:∀ (args:Array Value) (w:World),(callFunc N args).run Tryz.prog w=.ok (.enter N args) w) (most:Nat) (en:UInt8) (c1 c2:Value) (σ:Type) (I:σ→World→Prop) (P lo:Nat) (L:List Tok) (hI:∀ (s:σ) (a b:World),I s a→But P a b→I s b) (t:Tok) (q:List Tok) (s:σ) (w:World) (hlw:lo≤w.heap.size)
  (H:Hid (PSt P L w (t::q))) (HS:Hid (I s w)) (ht:gH t [en]=true) :
  Calls Tryz.prog 187 #[.pointer (some ⟨P,0,none⟩),.int .i64 most,.string ⟨#[en]⟩,.func (.func N) #[] #[c1,c2]] w (kK I lo P L w (.ok s q)):=by
 have HT:=aA (show gH t (⟨#[en]⟩:ByteArray).data.toList=true from ht);have HI:=aA hI;clear ht hI;go_enter Tryz.func187,Tryz.ntmps187;go_wp2_with fail;refine (cQ P L t q ⟨#[en]⟩ _ H HT.out).mono ?_;rintro e w1 ⟨rfl,s1,b1⟩;have S1:=aA s1;have I1:=aA (HI.out _ _ _ HS.out b1);have B1:=aA (ButLo.of (lo:=lo) b1 hlw);clear s1 b1 H HS HT HI;go_wp2_with fail;go_end0
 exact⟨rfl,I1.out,S1.out,B1.out⟩
theorem Gr (N:Nat) (hcf:∀ (args:Array Value) (w:World),(callFunc N args).run Tryz.prog w=.ok (.enter N args) w) (most:Nat) (en:UInt8) (c1 c2:Value) (σ:Type) (I:σ→World→Prop) (P lo:Nat) (L:List Tok) (hI:∀ (s:σ) (a b:World),I s a→But P a b→I s b) (cnt:σ→Nat) (step:Nat→σ→List Tok→PG σ) (f:Nat) (hC:Ed N c1 c2 I cnt most step lo P L f) (l:List Tok) (s:σ) (w:World) (hf:20*l.length+10≤f) (hk:cnt s<most) (hlw:lo≤w.heap.size)
  (H:Hid (PSt P L w l)) (HS:Hid (I s w)) (hn:bZ l [en]=false) (l1:List Tok) (hq:step f s l=.bad l1) :
  Calls Tryz.prog 187 #[.pointer (some ⟨P,0,none⟩),.int .i64 most,.string ⟨#[en]⟩,.func (.func N) #[] #[c1,c2]] w (kK I lo P L w (.bad l1)):=by
 have HN:=aA (show bZ l (⟨#[en]⟩:ByteArray).data.toList=false from hn);have HC:=aA hC;have HI:=aA hI;clear hC hn hI;go_enter Tryz.func187,Tryz.ntmps187;go_wp2_with fail;refine (bF P L l ⟨#[en]⟩ _ H HN.out).mono ?_;rintro e w1 ⟨rfl,b1⟩;have S1:=aA (H.out.on b1);have I1:=aA (HI.out _ _ _ HS.out (But.of b1));have B1:=aA (ButLo.of (lo:=lo) (But.of (P:=P) b1) hlw);have hz1:=b1.size;clear b1 H HS HN;go_wp2_with fail;have CC:=HC.out s l w1 hf hk (by omega) S1 I1;rw [hq] at CC;refine CC.mono ?_;rintro e w2 ⟨rfl,s2,b2⟩;have S2:=aA s2;have B2:=aA (B1.out.trans b2);clear s2 b2 CC S1 I1 B1 HC HI;unfold aV;go_wp2_with fail;exact⟨rfl,rfl,S2.out,B2.out⟩
theorem Ef (N:Nat) (hcf:∀ (args:Array Value) (w:World),(callFunc N args).run Tryz.prog w=.ok (.enter N args) w) (most:Nat) (en:UInt8) (c1 c2:Value) (σ:Type) (I:σ→World→Prop) (P lo:Nat) (L:List Tok) (hI:∀ (s:σ) (a b:World),I s a→But P a b→I s b) (cnt:σ→Nat) (step:Nat→σ→List Tok→PG σ) (f:Nat) (hmo:most≤40) (hC:∀ g,g≤f→Ed N c1 c2 I cnt most step lo P L g) (hL:∀ (g:Nat) (s s':σ) (l l':List Tok) (w:World),PSt P L w l→step g s l=.ok s' l'→l'.length+1≤l.length∧cnt s'=cnt s+1)
  (l:List Tok) (s:σ) (w:World) (hf:20*l.length+10≤f) (hk:cnt s=0) (hm0:0<most) (hlw:lo≤w.heap.size)
  (H:Hid (PSt P L w l)) (HS:Hid (I s w)) (hn:bZ l [en]=false) (s1:σ) (l1:List Tok) (hq:step f s l=.ok s1 l1) :
  Calls Tryz.prog 187 #[.pointer (some ⟨P,0,none⟩),.int .i64 most,.string ⟨#[en]⟩,.func (.func N) #[] #[c1,c2]] w (kK I lo P L w (kJ step cnt most en f s1 l1)):=by
 have HN:=aA (show bZ l (⟨#[en]⟩:ByteArray).data.toList=false from hn);have HC:=aA hC;have HI:=aA hI;have HL:=aA hL;obtain⟨hl1,hc1⟩:=hL f s s1 l l1 w H.out hq;clear hC hn hI hL;go_enter Tryz.func187,Tryz.ntmps187;go_wp2_with fail;refine (bF P L l ⟨#[en]⟩ _ H HN.out).mono ?_;rintro e w1 ⟨rfl,b1⟩;have S1:=aA (H.out.on b1);have I1:=aA (HI.out _ _ _ HS.out (But.of b1));have B1:=aA (ButLo.of (lo:=lo) (But.of (P:=P) b1) hlw);have hz1:=b1.size;clear b1 H HS HN;go_wp2_with fail;have CC:=HC.out f (Nat.le_refl _) s l w1 hf (by omega) (by omega) S1 I1;rw [hq] at CC;refine CC.mono ?_;rintro e w2 ⟨rfl,i2,s2,b2⟩;have I2:=aA i2;have S2:=aA s2;have B2:=aA (B1.out.trans b2);clear i2 s2 b2 CC S1 I1 B1;go_wp2_with fail;go_loopw [8] (fun i wr=>∃ (g:Nat) (s':σ) (m:List Tok) (n:Nat),Hid (kJ step cnt most en f s1 l1=kJ step cnt most en g s' m)∧i=.int .i64 n∧n=cnt s'∧n≤most∧20*m.length+25≤g∧g≤f∧Hid (PSt P L wr m)∧Hid (I s' wr)∧Hid (ButLo lo P w wr)) (fun _ wr=>eU P L wr)
 case atStart=>exact⟨f,s1,l1,1,(show Hid (_=_) from rfl),rfl,by omega,by omega,by omega,Nat.le_refl _,S2.out,I2.out,B2.out⟩
 case round=>
  obtain⟨g,s',m,n,hE,rfl,hn,hnm,hgm,hgf,hS,hII,hB⟩:=hrel;clear S2 I2 B2;obtain⟨g,rfl⟩:∃ g',g=g'+2:=⟨g - 2,by omega⟩
  have hzr:=hB.out.size;have LW:=aA (eO hS.out);by_cases h7:n<most
  ·by_cases h44:bZ m [44]=true
   ·obtain⟨u,z,rfl,hu⟩:=aX h44;have HE:=aA (hE.out.trans (Gm ⟨hn▸h7,h44⟩));have HU:=aA hu;have hzl:20*z.length+10≤g:=by simp at hgm;omega
    clear hE h44 hu;cases hq2:step g s' z with
    | bad l3=>
     rw [hq2] at HE;go_wp2_with fail;refine (cQ P L u z ⟨#[44]⟩ _ hS HU.out).mono ?_;rintro e w3 ⟨rfl,s3,b3⟩;have S3:=aA s3;have I3:=aA (HI.out _ _ _ hII.out b3);have B3:=aA (hB.out.trans (ButLo.of b3 (by omega)));have hz3:=b3.size;clear s3 b3 hS hII hB HU LW;go_wp2_with fail;have CC:=HC.out g (by omega) s' z w3 hzl (by omega) (by omega) S3 I3;rw [hq2] at CC;refine CC.mono ?_;rintro e w4 ⟨rfl,s4,b4⟩;have S4:=aA s4;have B4:=aA (B3.out.trans b4);clear s4 b4 CC S3 I3 B3 HC;unfold aV;go_wp2_with fail;refine⟨rfl,?_⟩;rw [HE.out];exact⟨rfl,S4.out,B4.out⟩
    | ok s3' l3=>
     have HL3:=aA (fun (w':World) (S:PSt P L w' z)=>HL.out g s' s3' z l3 w' S hq2);rw [hq2] at HE;go_wp2_with fail;refine (cQ P L u z ⟨#[44]⟩ _ hS HU.out).mono ?_;rintro e w3 ⟨rfl,s3,b3⟩;obtain⟨hl3,hc3⟩:=HL3.out w3 s3;have S3:=aA s3;have I3:=aA (HI.out _ _ _ hII.out b3);have B3:=aA (hB.out.trans (ButLo.of b3 (by omega)));have hz3:=b3.size;clear s3 b3 hS hII hB HU HL3;go_wp2_with fail;have CC:=HC.out g (by omega) s' z w3 hzl (by omega) (by omega) S3 I3;rw [hq2] at CC;refine CC.mono ?_;rintro e w4 ⟨rfl,i4,s4,b4⟩;have I4:=aA i4;have S4:=aA s4;have B4:=aA (B3.out.trans b4);have HLE:=aA (show eU P L w4<eU P L wr by rw [eO s4,LW.out];simp;omega);have HE4:=aA (HE.out.trans (PG.bind_ok s3' l3 _));clear i4 s4 b4 CC S3 I3 B3 HE LW;go_wp2_with fail;go_roundw
     case rel=>exact⟨g,s3',l3,n+1,HE4.out,by go_num,by omega,by omega,by simp at hgm;omega,by omega,S4.out,I4.out,B4.out⟩
     case measure=>exact HLE.out
   ·have hE':=hE.out.trans (Ac (fun h=>h44 h.2));have H44:=aA (show bZ m (⟨#[44]⟩:ByteArray).data.toList=false by simpa using h44);clear hE h44 HC LW HL;by_cases he:bZ m [en]=true
    ·obtain⟨u,z,rfl,hu⟩:=aX he;have HE:=aA (hE'.trans (Ee he));have HU:=aA (show gH u (⟨#[en]⟩:ByteArray).data.toList=true from hu);clear hE' he hu;go_wp2_with fail;refine (bF P L (u::z) ⟨#[44]⟩ _ hS H44.out).mono ?_;rintro e w4 ⟨rfl,b4⟩;have S4:=aA (hS.out.on b4);have I4:=aA (HI.out _ _ _ hII.out (But.of b4));have B4:=aA (hB.out.trans (ButLo.of (But.of (P:=P) b4) (by omega)));have hz4:=b4.size;clear b4 H44;go_wp2_with fail;refine (dI P L u z ⟨#[en]⟩ _ S4 HU.out).mono ?_;rintro e w5 ⟨rfl,s5,b5⟩;have S5:=aA s5;have I5:=aA (HI.out _ _ _ I4.out b5);have B5:=aA (B4.out.trans (ButLo.of b5 (by omega)));clear s5 b5;go_wp2_with fail;go_end0
     rw [HE.out];exact⟨rfl,I5.out,S5.out,B5.out⟩
    ·have HE:=aA (hE'.trans (Ix he));have HN:=aA (show bZ m (⟨#[en]⟩:ByteArray).data.toList=false by simpa using he);clear hE' he;go_wp2_with fail;refine (bF P L m ⟨#[44]⟩ _ hS H44.out).mono ?_;rintro e w4 ⟨rfl,b4⟩;have S4:=aA (hS.out.on b4);have I4:=aA (HI.out _ _ _ hII.out (But.of b4));have B4:=aA (hB.out.trans (ButLo.of (But.of (P:=P) b4) (by omega)));have hz4:=b4.size;clear b4 H44;go_wp2_with fail;refine (iI P L m ⟨#[en]⟩ _ S4 HN.out).mono ?_;rintro e w5 ⟨rfl,b5⟩;have S5:=aA (S4.out.on b5);have B5:=aA (B4.out.trans (ButLo.of (But.of (P:=P) b5) (by omega)));clear b5;unfold aV;go_wp2_with fail;refine⟨rfl,?_⟩;rw [HE.out];exact⟨rfl,S5.out,B5.out⟩
  ·have hE':=hE.out.trans (Ac (fun h=>h7 (hn▸h.1)));clear hE HC LW HL;by_cases he:bZ m [en]=true
   ·obtain⟨u,z,rfl,hu⟩:=aX he;have HE:=aA (hE'.trans (Ee he));have HU:=aA (show gH u (⟨#[en]⟩:ByteArray).data.toList=true from hu);clear hE' he hu;go_wp2_with fail;refine (dI P L u z ⟨#[en]⟩ _ hS HU.out).mono ?_;rintro e w5 ⟨rfl,s5,b5⟩;have S5:=aA s5;have I5:=aA (HI.out _ _ _ hII.out b5);have B5:=aA (hB.out.trans (ButLo.of b5 (by omega)));clear s5 b5;go_wp2_with fail;go_end0
    rw [HE.out];exact⟨rfl,I5.out,S5.out,B5.out⟩
   ·have HE:=aA (hE'.trans (Ix he));have HN:=aA (show bZ m (⟨#[en]⟩:ByteArray).data.toList=false by simpa using he);clear hE' he;go_wp2_with fail;refine (iI P L m ⟨#[en]⟩ _ hS HN.out).mono ?_;rintro e w5 ⟨rfl,b5⟩;have S5:=aA (hS.out.on b5);have B5:=aA (hB.out.trans (ButLo.of (But.of (P:=P) b5) (by omega)));clear b5;unfold aV;go_wp2_with fail;refine⟨rfl,?_⟩;rw [HE.out];exact⟨rfl,S5.out,B5.out⟩
theorem vE (N:Nat) (hcf:∀ (args:Array Value) (w:World),(callFunc N args).run Tryz.prog w=.ok (.enter N args) w) (most:Nat) (en:UInt8) (c1 c2:Value) (σ:Type) (I:σ→World→Prop) (P lo:Nat) (L:List Tok) (hI:∀ (s:σ) (a b:World),I s a→But P a b→I s b) (cnt:σ→Nat) (step:Nat→σ→List Tok→PG σ) (f:Nat) (hmo:most≤40) (hm0:0<most) (hC:∀ g,g≤f→Ed N c1 c2 I cnt most step lo P L g) (hL:∀ (g:Nat) (s s':σ) (l l':List Tok) (w:World),PSt P L w l→step g s l=.ok s' l'→l'.length+1≤l.length∧cnt s'=cnt s+1)
  (l:List Tok) (s:σ) (w:World) (hf:20*l.length+10≤f) (hk:cnt s=0) (hlw:lo≤w.heap.size) (H:Hid (PSt P L w l)) (HS:Hid (I s w)) :
  Calls Tryz.prog 187 #[.pointer (some ⟨P,0,none⟩),.int .i64 most,.string ⟨#[en]⟩,.func (.func N) #[] #[c1,c2]] w (kK I lo P L w (tS step cnt most en f s l)):=by
 unfold tS;by_cases he:bZ l [en]=true
 ·obtain⟨t,q,rfl,ht⟩:=aX he;rw [if_pos he];exact CF N hcf most en c1 c2 σ I P lo L hI t q s w hlw H HS ht
 ·rw [if_neg he];cases hq:step f s l with
  | bad l1=>
   rw [PG.bind_bad];exact Gr N hcf most en c1 c2 σ I P lo L hI cnt step f (hC f (Nat.le_refl _)) l s w hf (by omega) hlw H HS (by simpa using he) l1 hq
  | ok s1 l1=>
   rw [PG.bind_ok];exact Ef N hcf most en c1 c2 σ I P lo L hI cnt step f hmo hC hL l s w hf hk hm0 hlw H HS (by simpa using he) s1 l1 hq
theorem But.lo {P lo:Nat} {a b c:World} (h:But P a b) (k:ButLo lo P b c) (hl:a.heap.size≤lo):But P a c:=
 ⟨k.os.trans h.os,k.tape.trans h.tape,k.output.trans h.output,Nat.le_trans h.size k.size,fun i h1 h2=>(k.block i (by omega) h2).trans (h.block i h1 h2)⟩
theorem Gs {P lo g:Nat} {T:TypeId} {cs:Array Value} {a c:World} (h:dP g T cs a) (k:ButLo lo P a c) (hg:g<lo) (hp:g≠P):dP g T cs c:=(k.block g hg hp).trans h
theorem IA {P nb pb lo:Nat} {ok:Nat→Prop} {kd at_:Int} {w:World} (h1:dP nb 26 #[.int .i64 kd,.int .i64 0,.int .i64 0,.string ⟨#[]⟩,.slice none 0 0,.slice none 0 0,.int .i64 at_] w) (h2:dP pb 43 #[.pointer (some ⟨P,0,none⟩)] w):Gp P nb pb lo ok kd at_ ([],[]) w:=
 ⟨_,_,h1,h2,Mt _ _ _,Mu _ _ _⟩
theorem Ot {lo nb zb:Nat} {ok:Nat→Prop} {w:World} {nv kv:Value} {ns:List ByteArray} {ks:List Nd} (hb:∀ b,ok b→lo≤b∧b≠zb) (M:oY nb ok w nv ns) (R:jC nb (Iv ok nv) w kv ks) (a b c d e f p:Value) :
  JL lo (put7w w zb a b c d e f p) nv ns∧FL lo (put7w w zb a b c d e f p) kv ks:=by
 have hs:(put7w w zb a b c d e f p).heap.size=w.heap.size:=by simp [put7w,World.setCell]
 have AO:=eT (ok:=ok) (g:=zb) w (fun h=>(hb zb h).2 rfl) a b c d e f p;exact⟨qH (fun k hk=>⟨⟨(hb k hk.1).1,by rw [hs];exact hk.2⟩,AO.block k hk.1 hk.2⟩) (BI M),iD (fun k hk=>⟨⟨(hb k hk.1.1).1,by rw [hs];exact hk.2⟩,AO.block k hk.1.1 hk.2⟩) (jT R)⟩
theorem MA (P:Nat) (L l:List Tok) (w:World) (o:PG (List ByteArray×List Nd)) (H:Hid (PSt P L w l))
  (CC:Hid (Calls Tryz.prog 187 #[.pointer (some ⟨P,0,none⟩),.int .i64 40,.string ⟨#[125]⟩,.func (.func 191) #[] #[.pointer (some ⟨w.heap.size+1+1,0,none⟩),.pointer (some ⟨w.heap.size,0,none⟩)]] (((w.alloc (.cells #[.pointer (some ⟨P,0,none⟩)] 43)).alloc (.cells #[.int .i64 0,.int .i64 0,.int .i64 0,.string ⟨#[]⟩,.slice none 0 0,.slice none 0 0,.int .i64 0] 26)).alloc (.cells #[.int .i64 7,.int .i64 0,.int .i64 0,.string ⟨#[]⟩,.slice none 0 0,.slice none 0 0,.int .i64 0] 26)) (kK (Mx P (w.heap.size+1+1) (w.heap.size) (w.heap.size+1+1) (fun b=>w.heap.size+1+1<b) 7 0) (w.heap.size+1+1) P L (((w.alloc (.cells #[.pointer (some ⟨P,0,none⟩)] 43)).alloc (.cells #[.int .i64 0,.int .i64 0,.int .i64 0,.string ⟨#[]⟩,.slice none 0 0,.slice none 0 0,.int .i64 0] 26)).alloc (.cells #[.int .i64 7,.int .i64 0,.int .i64 0,.string ⟨#[]⟩,.slice none 0 0,.slice none 0 0,.int .i64 0] 26)) o))) :
  Calls Tryz.prog 183 #[.pointer (some ⟨P,0,none⟩)] w (bR P L w ((PG.toL o).bind fun ns ks l=>.ok (.mk 7 0 0 bz ns ks 0) false l)):=by
 have hP:=H.out.lt;have A1:=(Below.refl _ w).alloc (Nat.le_refl _) (.cells #[.pointer (some ⟨P,0,none⟩)] 43);have A2:=(Below.refl _ (w.alloc (.cells #[.pointer (some ⟨P,0,none⟩)] 43))).alloc (Nat.le_refl _) (.cells #[.int .i64 0,.int .i64 0,.int .i64 0,.string ⟨#[]⟩,.slice none 0 0,.slice none 0 0,.int .i64 0] 26);have A3:=(Below.refl _ ((w.alloc (.cells #[.pointer (some ⟨P,0,none⟩)] 43)).alloc (.cells #[.int .i64 0,.int .i64 0,.int .i64 0,.string ⟨#[]⟩,.slice none 0 0,.slice none 0 0,.int .i64 0] 26))).alloc (Nat.le_refl _) (.cells #[.int .i64 7,.int .i64 0,.int .i64 0,.string ⟨#[]⟩,.slice none 0 0,.slice none 0 0,.int .i64 0] 26);have S3:=aA (((H.out.on A1).on A2).on A3);have Q3:=aA (aC (aC (aI w 43 #[.pointer (some ⟨P,0,none⟩)]) A2) A3);have Z3:=aA (show dP (w.heap.size+1) 26 #[.int .i64 0,.int .i64 0,.int .i64 0,.string ⟨#[]⟩,.slice none 0 0,.slice none 0 0,.int .i64 0] (((w.alloc (.cells #[.pointer (some ⟨P,0,none⟩)] 43)).alloc (.cells #[.int .i64 0,.int .i64 0,.int .i64 0,.string ⟨#[]⟩,.slice none 0 0,.slice none 0 0,.int .i64 0] 26)).alloc (.cells #[.int .i64 7,.int .i64 0,.int .i64 0,.string ⟨#[]⟩,.slice none 0 0,.slice none 0 0,.int .i64 0] 26)) from by
  have:=aC (aI (w.alloc (.cells #[.pointer (some ⟨P,0,none⟩)] 43)) 26 #[.int .i64 0,.int .i64 0,.int .i64 0,.string ⟨#[]⟩,.slice none 0 0,.slice none 0 0,.int .i64 0]) A3;simpa using this)
 have K3:=aA (show dP (w.heap.size+1+1) 26 #[.int .i64 7,.int .i64 0,.int .i64 0,.string ⟨#[]⟩,.slice none 0 0,.slice none 0 0,.int .i64 0] (((w.alloc (.cells #[.pointer (some ⟨P,0,none⟩)] 43)).alloc (.cells #[.int .i64 0,.int .i64 0,.int .i64 0,.string ⟨#[]⟩,.slice none 0 0,.slice none 0 0,.int .i64 0] 26)).alloc (.cells #[.int .i64 7,.int .i64 0,.int .i64 0,.string ⟨#[]⟩,.slice none 0 0,.slice none 0 0,.int .i64 0] 26)) from by
  have:=aI ((w.alloc (.cells #[.pointer (some ⟨P,0,none⟩)] 43)).alloc (.cells #[.int .i64 0,.int .i64 0,.int .i64 0,.string ⟨#[]⟩,.slice none 0 0,.slice none 0 0,.int .i64 0] 26)) 26 #[.int .i64 7,.int .i64 0,.int .i64 0,.string ⟨#[]⟩,.slice none 0 0,.slice none 0 0,.int .i64 0];simpa using this)
 have B3:=aA (((But.of (P:=P) A1).trans (But.of A2)).trans (But.of A3));have C:C1 P (w.heap.size+1+1) (w.heap.size) (w.heap.size+1+1) (fun b=>w.heap.size+1+1<b):=⟨by omega,Nat.le_refl _,hP,by omega,by omega,by omega,by omega,fun b h1 h2=>h1⟩
 clear A1 A2 A3;clear H C Q3 K3;cases o with
 | bad l'=>
  go_enter Tryz.func183,Tryz.ntmps183;go_wp2_with fail;refine CC.out.mono ?_;rintro e w1 ⟨rfl,s1,b1⟩;have S1:=aA s1;have B1:=aA (B3.out.lo b1 (by omega));clear s1 b1 CC;unfold aV;go_wp2_with fail;exact⟨rfl,rfl,S1.out,B1.out⟩
 | ok s l'=>
  go_enter Tryz.func183,Tryz.ntmps183;go_wp2_with fail;refine CC.out.mono ?_;rintro e w1 ⟨rfl,⟨hlen,nv,kv,k1,q1,m1,r1⟩,s1,b1⟩;clear hlen;obtain⟨f1,g1,rfl⟩:=lK m1;obtain⟨f2,g2,rfl⟩:=iR r1;have S1:=aA s1;have B1:=aA (B3.out.lo b1 (by omega));have Z1:=aA (Gs Z3.out b1 (by omega) (by omega));have K1:=aA k1;have M1:=aA m1;have R1:=aA r1;clear s1 b1 k1 q1 m1 r1 CC S3 B3 Z3;obtain⟨c0,c1,c2,c3,c4,c5,c6⟩:=aN K1.out;obtain⟨r0,r1,r2,r3,r4,r5,r6⟩:=aN Z1.out;obtain⟨u0,u1,u2,u3,u4,u5,u6⟩:=bP Z1.out;have hg9:=aF Z1.out;have hv9:=aF K1.out;go_wp2_with fail;have Z:=bS hP (Nat.le_succ _) S1.out B1.out Z1.out (.int .i64 7) (.int .i64 0) (.int .i64 0) (.string ⟨#[]⟩) (.slice f1 s.1.length g1) (.slice f2 s.2.length g2) (.int .i64 0);exact bodyPost_ret (cJ rfl rfl Z.1) rfl ⟨⟨_,_,rfl,eN (Ot (fun b hb=>⟨by omega,by omega⟩) M1.out R1.out _ _ _ _ _ _ _)⟩,Z.2.1,Z.2.2⟩
theorem Kv (f:Nat) (hR:∀ g,g≤f→gS g):PM (f+2):=by
 intro P L l w hf H;unfold Pq;rw [PQ];refine MA P L l w _ H ?_;have hP:=H.out.lt;have A1:=(Below.refl _ w).alloc (Nat.le_refl _) (.cells #[.pointer (some ⟨P,0,none⟩)] 43);have A2:=(Below.refl _ (w.alloc (.cells #[.pointer (some ⟨P,0,none⟩)] 43))).alloc (Nat.le_refl _) (.cells #[.int .i64 0,.int .i64 0,.int .i64 0,.string ⟨#[]⟩,.slice none 0 0,.slice none 0 0,.int .i64 0] 26);have A3:=(Below.refl _ ((w.alloc (.cells #[.pointer (some ⟨P,0,none⟩)] 43)).alloc (.cells #[.int .i64 0,.int .i64 0,.int .i64 0,.string ⟨#[]⟩,.slice none 0 0,.slice none 0 0,.int .i64 0] 26))).alloc (Nat.le_refl _) (.cells #[.int .i64 7,.int .i64 0,.int .i64 0,.string ⟨#[]⟩,.slice none 0 0,.slice none 0 0,.int .i64 0] 26);have S3:=aA (((H.out.on A1).on A2).on A3);have Q3:=aA (aC (aC (aI w 43 #[.pointer (some ⟨P,0,none⟩)]) A2) A3);have Z3:=aA (show dP (w.heap.size+1) 26 #[.int .i64 0,.int .i64 0,.int .i64 0,.string ⟨#[]⟩,.slice none 0 0,.slice none 0 0,.int .i64 0] (((w.alloc (.cells #[.pointer (some ⟨P,0,none⟩)] 43)).alloc (.cells #[.int .i64 0,.int .i64 0,.int .i64 0,.string ⟨#[]⟩,.slice none 0 0,.slice none 0 0,.int .i64 0] 26)).alloc (.cells #[.int .i64 7,.int .i64 0,.int .i64 0,.string ⟨#[]⟩,.slice none 0 0,.slice none 0 0,.int .i64 0] 26)) from by
  have:=aC (aI (w.alloc (.cells #[.pointer (some ⟨P,0,none⟩)] 43)) 26 #[.int .i64 0,.int .i64 0,.int .i64 0,.string ⟨#[]⟩,.slice none 0 0,.slice none 0 0,.int .i64 0]) A3;simpa using this)
 have K3:=aA (show dP (w.heap.size+1+1) 26 #[.int .i64 7,.int .i64 0,.int .i64 0,.string ⟨#[]⟩,.slice none 0 0,.slice none 0 0,.int .i64 0] (((w.alloc (.cells #[.pointer (some ⟨P,0,none⟩)] 43)).alloc (.cells #[.int .i64 0,.int .i64 0,.int .i64 0,.string ⟨#[]⟩,.slice none 0 0,.slice none 0 0,.int .i64 0] 26)).alloc (.cells #[.int .i64 7,.int .i64 0,.int .i64 0,.string ⟨#[]⟩,.slice none 0 0,.slice none 0 0,.int .i64 0] 26)) from by
  have:=aI ((w.alloc (.cells #[.pointer (some ⟨P,0,none⟩)] 43)).alloc (.cells #[.int .i64 0,.int .i64 0,.int .i64 0,.string ⟨#[]⟩,.slice none 0 0,.slice none 0 0,.int .i64 0] 26)) 26 #[.int .i64 7,.int .i64 0,.int .i64 0,.string ⟨#[]⟩,.slice none 0 0,.slice none 0 0,.int .i64 0];simpa using this)
 have B3:=aA (((But.of (P:=P) A1).trans (But.of A2)).trans (But.of A3));have C:C1 P (w.heap.size+1+1) (w.heap.size) (w.heap.size+1+1) (fun b=>w.heap.size+1+1<b):=⟨by omega,Nat.le_refl _,hP,by omega,by omega,by omega,by omega,fun b h1 h2=>h1⟩
 clear A1 A2 A3;exact aA (vE _ (fun _ _=>by kernel_rfl) 40 125 _ _ _ (Mx P (w.heap.size+1+1) (w.heap.size) (w.heap.size+1+1) (fun b=>w.heap.size+1+1<b) 7 0) P (w.heap.size+1+1) L (fun s a b h k=>⟨h.1,Iy C s a b h.2 k⟩) (fun s=>s.2.length) kW f (by omega) (by omega) (fun g hg=>Ku g (hR g hg) P _ _ _ L _ C 7 0) (fun g s s' l l' w' S h=>My P L g s s' l l' w' S h) l ([],[]) _ (by omega) rfl (by simp) S3 (aA ⟨rfl,IA K3.out Q3.out⟩))
end Go.Proofs.YtdnnmjhfidimcaaGreatDoor
