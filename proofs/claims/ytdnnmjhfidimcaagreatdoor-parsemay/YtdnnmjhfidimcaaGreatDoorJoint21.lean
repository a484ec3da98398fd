/- The parts of a built-in call. A list with any closure. Built-in calls, all of them. -/
import Derived.Test.YtdnnmjhfidimcaaGreatDoorJoint18
import Derived.Test.YtdnnmjhfidimcaaGreatDoorJoint20
namespace Go.Proofs.YtdnnmjhfidimcaaGreatDoor
set_option maxRecDepth 100000
set_option maxHeartbeats 12800000
open Go.RowKit
def gX (f:Nat):Nat→List Nd→List Tok→PL
 | 0,ks,l=>mustL [41] l fun l=>.ok [] ks l
 | n+1,ks,l=>mustL [44] l fun l=>(aS f 1 l).bindL fun e _ l=>gX f n (ks++[e]) l
def rS (f m:Nat) (l:List Tok):PL:=mustL [40] l fun l=>(aS f 1 l).bindL fun e _ l=>gX f (m - 1) [e] l
theorem DY {lo:Nat} {ok:Nat→Prop} {w:World} {x:Nd} {nv kv:Value} (hl:lo≤w.heap.size) (hg:ok w.heap.size) (N:rI ok w x nv kv):jC lo ok (w.alloc (.cells (fL x nv kv) 26)) (.slice (some ⟨w.heap.size,0,none⟩) 1 1) [x]:=by
 have AL:=(Below.refl _ w).alloc (Nat.le_refl _) (.cells (fL x nv kv) 26);refine⟨oX x nv kv,⟨rfl,.inr ⟨w.heap.size,1,fL x nv kv,rfl,hl,heap_alloc_new w _,Nat.le_refl _,by unfold maxLen;decide,rfl,rfl⟩⟩,⟨nv,kv,[],by simp,gU (fun b hb=>⟨⟨hb.1,by have:=hb.2;simp;omega,by have:=hb.2;simp [Value.ownBlock];omega⟩,AL.block b hb.2⟩) _ _ _ N,rfl⟩,fun g h=>?_⟩;simp [Value.ownBlock] at h;exact h▸hg
theorem BG {f r:Nat} {l:List Tok} {P:Nat} {L:List Tok} {w:World} (H:PSt P L w l) {x:Nd} {b:Bool} {l':List Tok} (h:aS f r l=.ok x b l'):l'.length+1≤l.length:=by
 have:=(yF f).rank r l (jX H);rw [h] at this;obtain⟨_,pre,u,e,_⟩:=this;rw [e];simp
theorem Kg (f:Nat) (hR:gS f) (P:Nat) (L:List Tok) (t:Tok) (q:List Tok) (m:Nat) (w:World) (hm:1≤m∧m≤2) (hf:20*q.length+10≤f) (H:Hid (PSt P L w (t::q))) (ht:gH t [40]=true) :
  Calls Tryz.prog 193 #[.pointer (some ⟨P,0,none⟩),.int .i64 m] w (zV P L w ((aS f 1 q).bindL fun e _ l=>gX f (m - 1) [e] l)):=by
 have HR:=aA (show ∀ (q:List Tok) (w':World),20*q.length+10≤f→Hid (PSt P L w' q)→Calls Tryz.prog 24 #[.pointer (some ⟨P,0,none⟩)] w' (bR P L w' (aS f 1 q)) from fun q w' hq S=>hR 1 P L q w' (by omega) (by omega) (by omega) S);have HT:=aA ht;have hP:=H.out.lt;clear ht hR;cases hq:aS f 1 q with
 | bad l'=>
  rw [PR.bindL_bad];have HC:=aA (fun w' S=>HR.out q w' hf S);rw [hq] at HC;clear HR;go_enter Tryz.func193,Tryz.ntmps193;go_wp2_with fail;refine (dI P L t q ⟨#[40]⟩ _ H HT.out).mono ?_;rintro e w1 ⟨rfl,s1,b1⟩;have S1:=aA s1;have B1:=aA b1;clear s1 b1 H HT;go_wp2_with fail;refine (HC.out _ S1).mono ?_;rintro e w2 ⟨rfl,s2,b2⟩;have S2:=aA s2;have B2:=aA (B1.out.trans b2);clear s2 b2 S1 B1 HC;unfold aV;go_wp2_with fail;exact⟨rfl,rfl,S2.out,B2.out⟩
 | ok x b l1=>
  rw [PR.bindL_ok];have HC:=aA (fun w' S=>HR.out q w' hf S);rw [hq] at HC;have HL1:=aA (fun (w':World) (S:PSt P L w' q)=>BG S hq);go_enter Tryz.func193,Tryz.ntmps193;go_wp2_with fail;refine (dI P L t q ⟨#[40]⟩ _ H HT.out).mono ?_;rintro e w1 ⟨rfl,s1,b1⟩;have hl1:=HL1.out w1 s1;have S1:=aA s1;have B1:=aA b1;have hz1:=b1.size;clear s1 b1 H HT HL1;go_wp2_with fail;refine (HC.out _ S1).mono ?_;rintro e w2 ⟨⟨nv,kv,rfl,n2⟩,s2,b2⟩;obtain⟨a1,q1,a2,q2,rfl,rfl⟩:=aP n2;have hz2:=b2.size;have AL:=(Below.refl _ w2).alloc (Nat.le_refl _) (.cells (fL x (.slice a1 x.names.length q1) (.slice a2 x.kids.length q2)) 26);have S2:=aA (s2.on AL);have B2:=aA ((B1.out.trans b2).trans (But.of AL));have K2:=aA (DY (lo:=w.heap.size) (ok:=(fun b=>w.heap.size≤b)) (by omega) (by show w.heap.size≤w2.heap.size;omega) (jO n2 (fun b h1 h2=>by show w.heap.size≤b;omega)));clear s2 b2 n2 AL S1 B1 HC;unfold fR;unfold fL at *
  go_wp2_with fail;go_loopw [5] (fun v wr=>∃ (n:Nat) (ks:List Nd) (l':List Tok),Hid (gX f (m - 1) [x] l1=gX f n ks l')∧ks.length+n=m∧20*l'.length+10≤f∧Hid (jC w.heap.size (fun b=>w.heap.size≤b) wr v ks)∧Hid (PSt P L wr l')∧Hid (But P w wr)) (fun _ wr=>eU P L wr)
  case atStart=>exact⟨m - 1,[x],l1,(show Hid (_=_) from rfl),by simp;omega,by omega,K2.out,S2.out,B2.out⟩
  case round=>
   obtain⟨n,ks,l',hE,hn,hf',hK,hS,hB⟩:=hrel;obtain⟨ao,cap,rfl⟩:=iR hK.out;clear K2 S2 B2;have hsz:=hB.out.size;have LW:=aA (eO hS.out);cases n with
   | zero=>
    have hnl:¬ (ks.length<m):=by omega
    have hkm:ks.length≤2:=by omega
    clear HR LW;by_cases hh:bZ l' [41]=true
    ·obtain⟨u,z,rfl,hu⟩:=aX hh;have HE:=aA (hE.out.trans (show gX f 0 ks (u::z)=.ok [] ks z by rw [gX];unfold Go.Proofs.YtdnnmjhfidimcaaGreatDoor.mustL;rw [if_pos hh];rfl));have HU:=aA hu;clear hE hh hu;go_wp2_with fail;refine (dI P L u z ⟨#[41]⟩ _ hS HU.out).mono ?_;rintro e w3 ⟨rfl,s3,b3⟩;have S3:=aA s3;have B3:=aA (hB.out.trans b3);have K3:=aA (dR hK.out b3 (by omega));clear s3 b3 hS hB hK HU;go_wp2_with fail;go_ret;rw [HE.out];exact⟨⟨_,rfl,jT K3.out⟩,S3.out,B3.out⟩
    ·have HE:=aA (hE.out.trans (show gX f 0 ks l'=.bad l' by rw [gX];unfold Go.Proofs.YtdnnmjhfidimcaaGreatDoor.mustL;rw [if_neg hh]));have HN:=aA (show bZ l' (⟨#[41]⟩:ByteArray).data.toList=false by simpa using hh);clear hE hh;go_wp2_with fail;refine (iI P L l' ⟨#[41]⟩ _ hS HN.out).mono ?_;rintro e w3 ⟨rfl,b3⟩;have S3:=aA (hS.out.on b3);have B3:=aA (hB.out.trans (But.of b3));clear b3 hS hB hK HN;unfold aV;go_wp2_with fail;refine⟨rfl,?_⟩;rw [HE.out];exact⟨rfl,S3.out,B3.out⟩
   | succ n=>
    have hnl:ks.length<m:=by omega
    have hkm:ks.length≤2:=by omega
    by_cases hh:bZ l' [44]=true
    ·obtain⟨u,z,rfl,hu⟩:=aX hh;have HE:=aA (hE.out.trans (show gX f (n+1) ks (u::z)=(aS f 1 z).bindL fun e _ l=>gX f n (ks++[e]) l by rw [gX];unfold Go.Proofs.YtdnnmjhfidimcaaGreatDoor.mustL;rw [if_pos hh];rfl));have HU:=aA hu;have hfz:20*z.length+10≤f:=by simp at hf';omega
     have HC:=aA (fun w' S=>HR.out z w' hfz S);clear hE hh hu HR;cases hq2:aS f 1 z with
     | bad l3=>
      rw [hq2] at HC HE;clear LW;go_wp2_with fail;refine (dI P L u z ⟨#[44]⟩ _ hS HU.out).mono ?_;rintro e w3 ⟨rfl,s3,b3⟩;have S3:=aA s3;have B3:=aA (hB.out.trans b3);clear s3 b3 hS hB hK HU;go_wp2_with fail;refine (HC.out _ S3).mono ?_;rintro e w4 ⟨rfl,s4,b4⟩;have S4:=aA s4;have B4:=aA (B3.out.trans b4);clear s4 b4 S3 B3 HC;unfold aV;go_wp2_with fail;refine⟨rfl,?_⟩;rw [HE.out];exact⟨rfl,S4.out,B4.out⟩
     | ok y b3 l3=>
      have HL3:=aA (fun (w':World) (S:PSt P L w' z)=>BG S hq2);rw [hq2] at HC HE;go_wp2_with fail;refine (dI P L u z ⟨#[44]⟩ _ hS HU.out).mono ?_;rintro e w3 ⟨rfl,s3,b3⟩;have hl3:=HL3.out w3 s3;have S3:=aA s3;have B3:=aA (hB.out.trans b3);have K3:=aA (dR hK.out b3 (by omega));have hz3:=b3.size;clear s3 b3 hS hB hK HU HL3;go_wp2_with fail;refine (HC.out _ S3).mono ?_;rintro e w4 ⟨⟨nv,kv,rfl,n4⟩,s4,b4⟩;obtain⟨b1,p1,b2,p2,rfl,rfl⟩:=aP n4;have S4:=aA s4;have B4:=aA (B3.out.trans b4);have K4:=aA (dR K3.out b4 (by omega));have hz4:=b4.size;have hzb:=B3.out.size;have HO:=aA (bA K3.out);have Y4:=aA (show wG (Fb (fun b=>w.heap.size≤b) (.slice ao ks.length cap) w4) w4 y (.slice b1 y.names.length p1) (.slice b2 y.kids.length p2) from gU (fun k hk=>⟨⟨by have:=hk.1;omega,hk.2,fun e=>by have:=HO.out k e.symm;have:=hk.1;omega⟩,rfl⟩) _ _ _ n4);clear s4 b4 n4 S3 B3 K3 HC;have AL:=(Below.refl _ w4).alloc (Nat.le_refl _) (.cells (fL y (.slice b1 y.names.length p1) (.slice b2 y.kids.length p2)) 26);have S4':=aA (S4.out.on AL);have B4':=aA (B4.out.trans (But.of AL));have HO4:=aA (bA K4.out);clear AL S4 B4;unfold fR;unfold fL at S4' B4';go_wp2_with (at_builtin;refine Ir rfl _ _ rfl w.heap.size (fun b=>w.heap.size≤b) ks y b1 b2 p1 p2 _ rfl _ (by rfl) K4.out Y4.out _ (by rfl) (by simp) (by omega) (by omega) (fun k hk=>by omega) ?_)
      intro v5 w5 k5 gr5;have S5:=aA (eP S4'.out (gG gr5 (by simp;omega) (fun k hk=>by have:=(HO4.out k hk).2.1;omega)));have B5:=aA (show But P w w5 from⟨gr5.os.trans B4'.out.os,gr5.tape.trans B4'.out.tape,gr5.output.trans B4'.out.output,Nat.le_trans B4'.out.size gr5.size,fun k h1 h2=>(gr5.block k (by have:=B4'.out.size;omega) (fun e=>by have:=(HO4.out k e.symm).2.1;omega)).trans (B4'.out.block k h1 h2)⟩);have K5:=aA k5;have HLE:=aA (show eU P L w5<eU P L wr by rw [eO S5.out,LW.out];simp;omega);have HE5:=aA (HE.out.trans (PR.bindL_ok y b3 l3 _));clear k5 gr5 S4' B4' K4 Y4 HO4 HO HE LW;go_wp2_with fail;go_roundw
      case rel=>exact⟨n,ks++[y],l3,HE5.out,by simp;omega,by omega,K5.out,S5.out,B5.out⟩
      case measure=>exact HLE.out
    ·have HE:=aA (hE.out.trans (show gX f (n+1) ks l'=.bad l' by rw [gX];unfold Go.Proofs.YtdnnmjhfidimcaaGreatDoor.mustL;rw [if_neg hh]));have HN:=aA (show bZ l' (⟨#[44]⟩:ByteArray).data.toList=false by simpa using hh);clear hE hh LW HR;go_wp2_with fail;refine (iI P L l' ⟨#[44]⟩ _ hS HN.out).mono ?_;rintro e w3 ⟨rfl,b3⟩;have S3:=aA (hS.out.on b3);have B3:=aA (hB.out.trans (But.of b3));clear b3 hS hB hK HN;unfold aV;go_wp2_with fail;refine⟨rfl,?_⟩;rw [HE.out];exact⟨rfl,S3.out,B3.out⟩
inductive PG (σ:Type) where
 | ok:σ→List Tok→PG σ
 | bad:List Tok→PG σ
def PG.bind {σ τ:Type} : PG σ→(σ→List Tok→PG τ)→PG τ
 | .ok s l,k=>k s l
 | .bad l,_=>.bad l
theorem PG.bind_ok {σ τ:Type} (s:σ) (l:List Tok) (k:σ→List Tok→PG τ):(PG.ok s l).bind k=k s l:=rfl
theorem PG.bind_bad {σ τ:Type} (l:List Tok) (k:σ→List Tok→PG τ):(PG.bad l:PG σ).bind k=.bad l:=rfl
def Ab {σ:Type} (en:UInt8) (s:σ) (l:List Tok):PG σ:=if bZ l [en] then .ok s l.tail else .bad l
def kJ {σ:Type} (step:Nat→σ→List Tok→PG σ) (cnt:σ→Nat) (most:Nat) (en:UInt8):Nat→σ→List Tok→PG σ
 | 0,_,l=>.bad l
 | 1,s,l=>if cnt s<most∧bZ l [44]=true then .bad l.tail else Ab en s l
 | f+2,s,l=>if cnt s<most∧bZ l [44]=true then (step f s l.tail).bind fun s l=>kJ step cnt most en f s l else Ab en s l
def tS {σ:Type} (step:Nat→σ→List Tok→PG σ) (cnt:σ→Nat) (most:Nat) (en:UInt8) (f:Nat) (s:σ) (l:List Tok):PG σ:=
 if bZ l [en] then .ok s l.tail else (step f s l).bind fun s l=>kJ step cnt most en f s l
def kK {σ:Type} (I:σ→World→Prop) (lo P:Nat) (L:List Tok) (w:World) (out:PG σ) (e:Ending) (w':World):Prop:=
 match out with
 | .ok s l=>e=.returned (.tuple #[])∧I s w'∧PSt P L w' l∧ButLo lo P w w'
 | .bad l=>e=aV∧PSt P L w' l∧ButLo lo P w w'
def Ed {σ:Type} (N:Nat) (c1 c2:Value) (I:σ→World→Prop) (cnt:σ→Nat) (most:Nat) (step:Nat→σ→List Tok→PG σ) (lo P:Nat) (L:List Tok) (g:Nat):Prop:=
 ∀ (s:σ) (l:List Tok) (w:World),20*l.length+10≤g→cnt s<most→lo≤w.heap.size→Hid (PSt P L w l)→Hid (I s w)→Calls Tryz.prog N #[c1,c2] w (kK I lo P L w (step g s l))
theorem Gm {σ:Type} {step:Nat→σ→List Tok→PG σ} {cnt:σ→Nat} {most:Nat} {en:UInt8} {g:Nat} {s:σ} {t:Tok} {z:List Tok} (h:cnt s<most∧bZ (t::z) [44]=true):kJ step cnt most en (g+2) s (t::z)=(step g s z).bind fun s l=>kJ step cnt most en g s l:=by rw [kJ,if_pos h];rfl
theorem Ac {σ:Type} {step:Nat→σ→List Tok→PG σ} {cnt:σ→Nat} {most:Nat} {en:UInt8} {g:Nat} {s:σ} {m:List Tok} (h:¬ (cnt s<most∧bZ m [44]=true)):kJ step cnt most en (g+2) s m=Ab en s m:=by rw [kJ,if_neg h]
theorem Ee {σ:Type} {en:UInt8} {s:σ} {u:Tok} {z:List Tok} (h:bZ (u::z) [en]=true):Ab en s (u::z)=.ok s z:=by unfold Ab;rw [if_pos h];rfl
theorem Ix {σ:Type} {en:UInt8} {s:σ} {m:List Tok} (h:¬ bZ m [en]=true):Ab en s m=.bad m:=by unfold Ab;rw [if_neg h]
theorem MC (P:Nat) (L l:List Tok) (m:Nat) (w:World) (H:Hid (PSt P L w l)) (hh:bZ l [40]=false) :
  Calls Tryz.prog 193 #[.pointer (some ⟨P,0,none⟩),.int .i64 m] w (zV P L w (.bad l)):=by
 have HN:=aA (show bZ l (⟨#[40]⟩:ByteArray).data.toList=false from hh);clear hh;go_enter Tryz.func193,Tryz.ntmps193;go_wp2_with fail;refine (iI P L l ⟨#[40]⟩ _ H HN.out).mono ?_;rintro e w1 ⟨rfl,b1⟩;have S1:=aA (H.out.on b1);have B1:=aA (But.of (P:=P) b1);clear b1 H HN;unfold aV;go_wp2_with fail;exact⟨rfl,rfl,S1.out,B1.out⟩
theorem Eg (f:Nat) (hR:gS f) (P:Nat) (L l:List Tok) (m:Nat) (w:World) (hm:1≤m∧m≤2) (hf:20*l.length≤f+10) (H:Hid (PSt P L w l)) :
  Calls Tryz.prog 193 #[.pointer (some ⟨P,0,none⟩),.int .i64 m] w (zV P L w (rS f m l)):=by
 unfold rS Go.Proofs.YtdnnmjhfidimcaaGreatDoor.mustL;by_cases hh:bZ l [40]=true
 ·obtain⟨t,q,rfl,ht⟩:=aX hh;rw [if_pos hh];exact Kg f hR P L t q m w hm (by simp at hf;omega) H ht
 ·rw [if_neg hh];exact MC P L l m w H (by simpa using hh)
theorem oQ (x:List UInt8) (l:List Tok) (k:List Tok→PL) (g:List ByteArray→List Nd→List Tok→PR):(mustL x l k).bind g=must x l fun l=>(k l).bind g:=by
 unfold Go.Proofs.YtdnnmjhfidimcaaGreatDoor.mustL Go.Proofs.YtdnnmjhfidimcaaGreatDoor.must;split<;>rfl
theorem uD (x:PR) (k:Nd→Bool→List Tok→PL) (g:List ByteArray→List Nd→List Tok→PR):(x.bindL k).bind g=x.bind fun a b l=>(k a b l).bind g:=by cases x<;>rfl
theorem Eh {f m:Nat} (hm:1≤m∧m≤7):∃ p:Nat,1≤p∧p≤2∧(builtT (m:Int)).2=p∧∀ q,(rS f p q).bind (fun _ ks l=>.ok (gK 17 m ks) false l) =
  (must [40] q fun l=>(aS f 1 l).bind fun e _ l=>
   if (builtT (m:Int)).2=2 then must [44] l fun l=>(aS f 1 l).bind fun e' _ l=>must [41] l fun l=>.ok (gK 17 m [e,e']) false l
   else must [41] l fun l=>.ok (gK 17 m [e]) false l):=by
 have one:(builtT (m:Int)).2=1→∀ q,(rS f 1 q).bind (fun _ ks l=>.ok (gK 17 m ks) false l) =
   (must [40] q fun l=>(aS f 1 l).bind fun e _ l=>
   if (builtT (m:Int)).2=2 then must [44] l fun l=>(aS f 1 l).bind fun e' _ l=>must [41] l fun l=>.ok (gK 17 m [e,e']) false l
   else must [41] l fun l=>.ok (gK 17 m [e]) false l):=by
  intro h q;rw [h];unfold rS;rw [oQ];congr 1;funext l
  rw [uD];congr 1;funext e b l
  rw [if_neg (by decide)];show (gX f 0 [e] l).bind _=_;rw [gX,oQ];rfl
 have two:(builtT (m:Int)).2=2→∀ q,(rS f 2 q).bind (fun _ ks l=>.ok (gK 17 m ks) false l) =
   (must [40] q fun l=>(aS f 1 l).bind fun e _ l=>
   if (builtT (m:Int)).2=2 then must [44] l fun l=>(aS f 1 l).bind fun e' _ l=>must [41] l fun l=>.ok (gK 17 m [e,e']) false l
   else must [41] l fun l=>.ok (gK 17 m [e]) false l):=by
  intro h q;rw [h];unfold rS;rw [oQ];congr 1;funext l
  rw [uD];congr 1;funext e b l
  rw [if_pos rfl];show (gX f 1 [e] l).bind _=_;rw [gX,oQ];congr 1;funext l
  rw [uD];congr 1;funext e' b l
  rw [gX,oQ];rfl
 rcases (show m=1∨m=2∨m=3∨m=4∨m=5∨m=6∨m=7 by omega) with rfl | rfl | rfl | rfl | rfl | rfl | rfl<;>
  first
  | exact⟨1,by omega,by omega,rfl,one rfl⟩
  | exact⟨2,by omega,by omega,rfl,two rfl⟩
theorem PV (f:Nat) (hR:gS f):Mr f:=by
 intro P L l w hf H;unfold Iu;cases hb:nS l with
 | none=>exact Gi P L l w H hb
 | some o=>
  obtain⟨m,rfl,hm1,hm7,hy,hn⟩:=DX hb;obtain⟨t,q,rfl,ht⟩:=aX hy;obtain⟨p,hp1,hp2,hpe,hpq⟩:=Eh (f:=f) ⟨hm1,hm7⟩;show Calls Tryz.prog _ _ w (bR P L w (must [40] q _));rw [← hpq q];exact Gj (rS f p q) m P L t q w (fun w' S=>by rw [hpe];exact Eg f hR P L q p w' ⟨hp1,hp2⟩ (by simp at hf;omega) S) H hm1 hm7 ht hn
end Go.Proofs.YtdnnmjhfidimcaaGreatDoor
