/- Properties, indices and calls behind an atom. -/
import Derived.Test.YtdnnmjhfidimcaaGreatDoorPsBetw
namespace Go.Proofs.YtdnnmjhfidimcaaGreatDoor
set_option maxHeartbeats 3200000
open Go.RowKit
def PH (P:Nat) (L:List Tok) (ok:Nat→Prop) (w:World) (out:PR) (e:Ending) (w':World):Prop:=
 match out with
 | .ok t _ l=>(∃ nv kv,e=.returned (fR t nv kv)∧rI ok w' t nv kv)∧PSt P L w' l∧But P w w'
 | .bad l=>e=aV∧PSt P L w' l∧But P w w'
def LX (P:Nat) (L:List Tok) (ok:Nat→Prop) (w:World) (out:PL) (e:Ending) (w':World):Prop:=
 match out with
 | .ok _ ks l=>(∃ kv,e=.returned kv∧Io ok w' kv ks)∧PSt P L w' l∧But P w w'
 | .bad l=>e=aV∧PSt P L w' l∧But P w w'
structure Free (P:Nat) (ok:Nat→Prop) (w:World):Prop where
 up:∀ b,w.heap.size≤b→ok b
 no:¬ ok P
theorem Free.on {P:Nat} {ok:Nat→Prop} {a c:World} (h:Free P ok a) (hs:a.heap.size≤c.heap.size):Free P ok c:=⟨fun b hb=>h.up b (by omega),h.no⟩
def Ip (f:Nat):Prop:=∀ (P:Nat) (L l:List Tok) (ok:Nat→Prop) (x:Nd) (nv kv:Value) (w:World),20*l.length+12≤f→Free P ok w→Hid (PSt P L w l)→Hid (rI ok w x nv kv)→Calls Tryz.prog 174 #[.pointer (some ⟨P,0,none⟩),fR x nv kv] w (LX P L ok w (jB f [x] l))
def rD (f:Nat) (x:Nd) (l:List Tok):PR:=
 kF true l fun s l=>if bZ l [40] then (jB f [x] l.tail).bind fun _ ks l=>.ok (tN 16 s ks) false l else .ok (tN 13 s [x]) true l
theorem wJ {ok:Nat→Prop} {w:World} {kv:Value} {ks:List Nd} (h:Io ok w kv ks):∃ a c,kv=.slice a ks.length c:=by
 rcases h with ⟨ao,cap,e1,e2⟩ | ⟨b,off,cap,e,_,_,_⟩
 ·subst e2;exact⟨ao,cap,e1⟩
 ·exact⟨_,cap,e⟩
theorem LY {P:Nat} {L:List Tok} {t:Tok} {r:List Tok} {w:World} (_h:PSt P L w (t::r)) (hw:qC true (t::r)=true):t.kind=1∨t.kind=2:=by
 unfold qC cur at hw;simpa using hw
theorem DQ {ok ok':Nat→Prop} {a:World} {t:Nd} {nv kv:Value} (hn:rI ok a t nv kv) (h:∀ b,ok b→b<a.heap.size→ok' b):rI ok' a t nv kv:=
 gU (fun b hb=>⟨⟨h b hb.1 hb.2,hb.2⟩,rfl⟩) _ _ _ hn
theorem zT {ok ok':Nat→Prop} {a:World} {kv:Value} {ks:List Nd} (hn:Io ok a kv ks) (h:∀ b,ok b→b<a.heap.size→ok' b):Io ok' a kv ks:=
 iD (fun b hb=>⟨⟨h b hb.1 hb.2,hb.2⟩,rfl⟩) hn
theorem LZ {ok:Nat→Prop} {g:Nat} {w2:World} {x:Nd} {nv kv:Value} (hg:¬ ok g) (hl:ok w2.heap.size) (N:rI ok w2 x nv kv) (a b c d e f p:Value) {T:TypeId} :
  Io ok ((put7w w2 g a b c d e f p).alloc (.cells (fL x nv kv) T)) (.slice (some ⟨w2.heap.size,0,none⟩) 1 1) [x]:=by
 have A:=eT w2 hg a b c d e f p;have hs:(put7w w2 g a b c d e f p).heap.size=w2.heap.size:=by simp [put7w,World.setCell]
 have A2:=eH A (aT (ok:=ok) ((Below.refl _ (put7w w2 g a b c d e f p)).alloc (Nat.le_refl _) (.cells (fL x nv kv) T)));have hb:=aI (put7w w2 g a b c d e f p) T (fL x nv kv);rw [hs] at hb;exact LP ⟨hl,by simp [hs]⟩ hb (aU A2 N)
theorem Ma {f:Nat} {x:Nd} {l:List Tok} (h:qC true l=false):rD f x l=.bad l:=by unfold rD kF;rw [h];rfl
theorem JN {f:Nat} {x:Nd} {t:Tok} {q:List Tok} (h:qC true (t::q)=true) (h2:bZ q [40]=false):rD f x (t::q)=.ok (tN 13 t.text [x]) true q:=by
 unfold rD kF;rw [h,if_pos rfl];show (if bZ q [40] then _ else _)=_;rw [h2];rfl
theorem FP {f:Nat} {x:Nd} {t u:Tok} {q:List Tok} (h:qC true (t::u::q)=true) (h2:gH u [40]=true):rD f x (t::u::q)=(jB f [x] q).bind fun _ ks l=>.ok (tN 16 t.text ks) false l:=by
 unfold rD kF;rw [h,if_pos rfl];show (if bZ (u::q) [40] then _ else _)=_;rw [eD,h2];rfl
theorem zU (f:Nat) (hC:Ip f) (P:Nat) (L l:List Tok) (ok:Nat→Prop) (x:Nd) (nv kv:Value) (w:World) (hf:20*l.length≤f) (F:Free P ok w) (H:Hid (PSt P L w l)) (N:Hid (rI ok w x nv kv)) :
  Calls Tryz.prog 173 #[.pointer (some ⟨P,0,none⟩),fR x nv kv] w (PH P L ok w (rD f x l)):=by
 obtain⟨a1,q1,a2,q2,rfl,rfl⟩:=hM N.out;have hP:=H.out.lt;have A1:=(Below.refl _ w).alloc (Nat.le_refl _) (.cells (fL x (.slice a1 x.names.length q1) (.slice a2 x.kids.length q2)) 26);have A2:=(Below.refl _ (w.alloc (.cells (fL x (.slice a1 x.names.length q1) (.slice a2 x.kids.length q2)) 26))).alloc (Nat.le_refl _) (.cells dK 26);have A:=aA (bB A1 A2);have S0:=aA (H.out.on A.out);have G0:=aA (show dP (w.heap.size+1) 26 dK ((w.alloc (.cells (fL x (.slice a1 x.names.length q1) (.slice a2 x.kids.length q2)) 26)).alloc (.cells dK 26)) from by
  have:=aI (w.alloc (.cells (fL x (.slice a1 x.names.length q1) (.slice a2 x.kids.length q2)) 26)) 26 dK;simpa using this)
 have X0:=aA (aC (aI w 26 (fL x (.slice a1 x.names.length q1) (.slice a2 x.kids.length q2))) A2);have N0:=aA (aU (aT A.out) (DQ (ok':=(fun b=>ok b∧b≠w.heap.size+1)) N.out (fun b h1 h2=>⟨h1,by omega⟩)));unfold dK at *
 unfold fR;cases hw:qC true l with
 | false=>
  rw [Ma hw];have HW:=aA hw;clear H N hC hw X0 N0 G0;unfold fL at *
  go_enter Tryz.func173,Tryz.ntmps173;go_wp2_with fail;refine (Cu P L l _ S0 HW.out).mono ?_;rintro e w1 ⟨rfl,b1⟩;have S1:=aA (S0.out.on b1);have B1:=aA (aH A.out (Nat.le_refl _) b1);clear b1 S0 A HW;unfold aV;go_wp2_with fail;exact⟨rfl,rfl,S1.out,But.of B1.out⟩
 | true=>
  obtain⟨t,q,rfl⟩:∃ t q,l=t::q:=by
   cases l with
   | nil=>cases hw
   | cons t q=>exact⟨t,q,rfl⟩
  have HK:=aA (LY H.out hw);cases hh:bZ q [40] with
  | false=>
   rw [JN hw hh];have HH:=aA hh;clear H N hC hh hw;unfold fL at *
   go_enter Tryz.func173,Tryz.ntmps173;go_wp2_with fail;refine (rN P L t q _ S0 HK.out).mono ?_;rintro e w1 ⟨rfl,s1,b1⟩;have S1:=aA s1;have B1:=aA ((But.of (P:=P) A.out).trans b1);have G1:=aA (aD G0.out b1 (by omega));have X1:=aA (aD X0.out b1 (by omega));have N1:=aA (aU (dG b1 (fun h=>F.no h.1)) N0.out);have hz1:=b1.size;simp only [World.size_alloc] at hz1;clear s1 b1 S0 A G0 X0 N0;go_wp2_with fail;refine (bF P L q ⟨#[40]⟩ _ S1 HH.out).mono ?_;rintro e w2 ⟨rfl,b2⟩;have S2:=aA (S1.out.on b2);have B2:=aA (B1.out.trans (But.of b2));have G2:=aA (aC G1.out b2);have X2:=aA (aC X1.out b2);have N2:=aA (aU (aT b2) N1.out);have hz2:=b2.size;have hg2:=aF G2.out;obtain⟨c0,c1,c2,c3,c4,c5,c6⟩:=aN X2.out;obtain⟨r0,r1,r2,r3,r4,r5,r6⟩:=aN G2.out;obtain⟨u0,u1,u2,u3,u4,u5,u6⟩:=bP G2.out;clear b2 S1 B1 G1 X1 N1 HH;go_wp2_with fail;have Z:=iW (bS hP (by omega) S2.out B2.out G2.out (.int .i64 13) (.int .i64 0) (.int .i64 0) (.string t.text) (.slice none 0 0) (.slice (some ⟨w2.heap.size,0,none⟩) 1 1) (.int .i64 0)) (.cells (fL x (.slice a1 x.names.length q1) (.slice a2 x.kids.length q2)) 26);have K:=LZ (g:=w.heap.size+1) (T:=26) (by simp) ⟨F.up _ (by omega),by omega⟩ N2.out (.int .i64 13) (.int .i64 0) (.int .i64 0) (.string t.text) (.slice none 0 0) (.slice (some ⟨w2.heap.size,0,none⟩) 1 1) (.int .i64 0);exact bodyPost_ret (cJ rfl rfl Z.1) rfl ⟨⟨_,_,rfl,pF ⟨.inl ⟨_,_,rfl,rfl⟩,zT K (fun b h1 _=>h1.1)⟩⟩,Z.2.1,Z.2.2⟩
  | true=>
   obtain⟨u,q2',rfl,hu⟩:=aX hh;rw [FP hw hu];have HU:=aA hu;have HC:=aA (fun w' F' S N'=>hC P L q2' (fun b=>ok b∧b≠w.heap.size+1) x (.slice a1 x.names.length q1) (.slice a2 x.kids.length q2) w' (by simp at hf;omega) F' S N');clear H N hC hh hu hw;unfold fR at HC;unfold fL at *
   cases hq:jB f [x] q2' with
   | bad l'=>
    rw [hq] at HC;rw [PL.bind_bad];go_enter Tryz.func173,Tryz.ntmps173;go_wp2_with fail;refine (rN P L t (u::q2') _ S0 HK.out).mono ?_;rintro e w1 ⟨rfl,s1,b1⟩;have S1:=aA s1;have B1:=aA ((But.of (P:=P) A.out).trans b1);have G1:=aA (aD G0.out b1 (by omega));have X1:=aA (aD X0.out b1 (by omega));have N1:=aA (aU (dG b1 (fun h=>F.no h.1)) N0.out);have hz1:=b1.size;simp only [World.size_alloc] at hz1;clear s1 b1 S0 A G0 X0 N0;go_wp2_with fail;refine (cQ P L u q2' ⟨#[40]⟩ _ S1 HU.out).mono ?_;rintro e w2 ⟨rfl,s2,b2⟩;have S2:=aA s2;have B2:=aA (B1.out.trans b2);have G2:=aA (aD G1.out b2 (by omega));have X2:=aA (aD X1.out b2 (by omega));have N2:=aA (aU (dG b2 (fun h=>F.no h.1)) N1.out);have hz2:=b2.size;obtain⟨c0,c1,c2,c3,c4,c5,c6⟩:=aN X2.out;clear s2 b2 S1 B1 G1 X1 N1 HU;go_wp2_with fail;refine (HC.out _ ⟨fun b hb=>⟨F.up b (by omega),by omega⟩,fun h=>F.no h.1⟩ S2 N2).mono ?_;rintro e w3 ⟨rfl,s3,b3⟩;have S3:=aA s3;have B3:=aA (B2.out.trans b3);clear s3 b3 S2 B2 G2 X2 N2 HC;unfold aV;go_wp2_with fail;exact⟨rfl,rfl,S3.out,B3.out⟩
   | ok ns ks l'=>
    rw [hq] at HC;rw [PL.bind_ok];go_enter Tryz.func173,Tryz.ntmps173;go_wp2_with fail;refine (rN P L t (u::q2') _ S0 HK.out).mono ?_;rintro e w1 ⟨rfl,s1,b1⟩;have S1:=aA s1;have B1:=aA ((But.of (P:=P) A.out).trans b1);have G1:=aA (aD G0.out b1 (by omega));have X1:=aA (aD X0.out b1 (by omega));have N1:=aA (aU (dG b1 (fun h=>F.no h.1)) N0.out);have hz1:=b1.size;simp only [World.size_alloc] at hz1;clear s1 b1 S0 A G0 X0 N0;go_wp2_with fail;refine (cQ P L u q2' ⟨#[40]⟩ _ S1 HU.out).mono ?_;rintro e w2 ⟨rfl,s2,b2⟩;have S2:=aA s2;have B2:=aA (B1.out.trans b2);have G2:=aA (aD G1.out b2 (by omega));have X2:=aA (aD X1.out b2 (by omega));have N2:=aA (aU (dG b2 (fun h=>F.no h.1)) N1.out);have hz2:=b2.size;obtain⟨c0,c1,c2,c3,c4,c5,c6⟩:=aN X2.out;clear s2 b2 S1 B1 G1 X1 N1 HU;go_wp2_with fail;refine (HC.out _ ⟨fun b hb=>⟨F.up b (by omega),by omega⟩,fun h=>F.no h.1⟩ S2 N2).mono ?_;rintro e w3 ⟨⟨kv3,rfl,k3⟩,s3,b3⟩;obtain⟨f1,g1,rfl⟩:=wJ k3;have S3:=aA s3;have B3:=aA (B2.out.trans b3);have G3:=aA (aD G2.out b3 (by omega));have K3:=aA k3;have hg3:=aF G3.out;obtain⟨r0,r1,r2,r3,r4,r5,r6⟩:=aN G3.out;obtain⟨u0,u1,u2,u3,u4,u5,u6⟩:=bP G3.out;clear s3 b3 k3 S2 B2 G2 X2 N2 HC;go_wp2_with fail;have Z:=bS hP (by omega) S3.out B3.out G3.out (.int .i64 16) (.int .i64 0) (.int .i64 0) (.string t.text) (.slice none 0 0) (.slice f1 ks.length g1) (.int .i64 0);exact bodyPost_ret (cJ rfl rfl Z.1) rfl ⟨⟨_,_,rfl,pF ⟨.inl ⟨_,_,rfl,rfl⟩,zT (nB (eT _ (by simp) _ _ _ _ _ _ _) K3.out) (fun b h1 _=>h1.1)⟩⟩,Z.2.1,Z.2.2⟩
end Go.Proofs.YtdnnmjhfidimcaaGreatDoor
