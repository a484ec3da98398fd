/- Properties, indices and calls behind an atom. -/
import Derived.Test.YtdnnmjhfidimcaaGreatDoorPsBetw
namespace Go.Proofs.YtdnnmjhfidimcaaGreatDoor
open Go.RowKit

def Jzz (P:Nat) (L:List Tok) (ok:Nat→Prop) (w:World) (out:PR) (e:Ending) (w':World):Prop:=
 match out with
 | .ok t _ l=>(∃ nv kv,e=.returned (ndv t nv kv)∧NdO ok w' t nv kv)∧PSt P L w' l∧But P w w'
 | .bad l=>e=uza∧PSt P L w' l∧But P w w'
def nzw (P:Nat) (L:List Tok) (ok:Nat→Prop) (w:World) (out:PL) (e:Ending) (w':World):Prop:=
 match out with
 | .ok _ ks l=>(∃ kv,e=.returned kv∧KdO ok w' kv ks)∧PSt P L w' l∧But P w w'
 | .bad l=>e=uza∧PSt P L w' l∧But P w w'
structure Free (P:Nat) (ok:Nat→Prop) (w:World):Prop where
 up:∀ b,w.heap.size≤b→ok b
 no:¬ ok P
theorem Free.on {P:Nat} {ok:Nat→Prop} {a c:World} (h:Free P ok a) (hs:a.heap.size≤c.heap.size):Free P ok c:=⟨fun b hb=>h.up b (by omega),h.no⟩
def Vzs (f:Nat):Prop:=∀ (P:Nat) (L l:List Tok) (ok:Nat→Prop) (x:Nd) (nv kv:Value) (w:World),20*l.length+12≤f→Free P ok w→Hid (PSt P L w l)→Hid (NdO ok w x nv kv)→Calls Tryz.prog 174 #[.pointer (some ⟨P,0,none⟩),ndv x nv kv] w (nzw P L ok w (Zzd f [x] l))
def Uzh (f:Nat) (x:Nd) (l:List Tok):PR:=
 Bze true l fun s l=>if isH l [40] then (Zzd f [x] l.tail).bind fun _ ks l=>.ok (ndS 16 s ks) false l else .ok (ndS 13 s [x]) true l

theorem tzk {ok:Nat→Prop} {w:World} {kv:Value} {ks:List Nd} (h:KdO ok w kv ks):∃ a c,kv=.slice a ks.length c:=by
 rcases h with ⟨ao,cap,e1,e2⟩ | ⟨b,off,cap,e,_,_,_⟩
 ·subst e2;exact⟨ao,cap,e1⟩
 ·exact⟨_,cap,e⟩
theorem ozw {P:Nat} {L:List Tok} {t:Tok} {r:List Tok} {w:World} (_h:PSt P L w (t::r)) (hw:isW true (t::r)=true):t.kind=1∨t.kind=2:=by
 unfold isW cur at hw;simpa using hw
theorem Bzp {ok ok':Nat→Prop} {a:World} {t:Nd} {nv kv:Value} (hn:NdO ok a t nv kv) (h:∀ b,ok b→b<a.heap.size→ok' b):NdO ok' a t nv kv:=
 nzd (fun b hb=>⟨⟨h b hb.1 hb.2,hb.2⟩,rfl⟩) _ _ _ hn
theorem Wzl {ok ok':Nat→Prop} {a:World} {kv:Value} {ks:List Nd} (hn:KdO ok a kv ks) (h:∀ b,ok b→b<a.heap.size→ok' b):KdO ok' a kv ks:=
 Czd (fun b hb=>⟨⟨h b hb.1 hb.2,hb.2⟩,rfl⟩) hn
theorem pzw {ok:Nat→Prop} {g:Nat} {w2:World} {x:Nd} {nv kv:Value} (hg:¬ ok g) (hl:ok w2.heap.size) (N:NdO ok w2 x nv kv) (a b c d e f p:Value) {T:TypeId} :
  KdO ok ((put7w w2 g a b c d e f p).alloc (.cells (ndc x nv kv) T)) (.slice (some ⟨w2.heap.size,0,none⟩) 1 1) [x]:=by
 have A:=szc w2 hg a b c d e f p;have hs:(put7w w2 g a b c d e f p).heap.size=w2.heap.size:=by simp [put7w,World.setCell]
 have A2:=gzc A (sza (ok:=ok) ((Below.refl _ (put7w w2 g a b c d e f p)).alloc (Nat.le_refl _) (.cells (ndc x nv kv) T)));have hb:=iza (put7w w2 g a b c d e f p) T (ndc x nv kv);rw [hs] at hb;exact gzw ⟨hl,by simp [hs]⟩ hb (tza A2 N)
theorem qzw {f:Nat} {x:Nd} {l:List Tok} (h:isW true l=false):Uzh f x l=.bad l:=by unfold Uzh Bze;rw [h];rfl
theorem nzu {f:Nat} {x:Nd} {t:Tok} {q:List Tok} (h:isW true (t::q)=true) (h2:isH q [40]=false):Uzh f x (t::q)=.ok (ndS 13 t.text [x]) true q:=by
 unfold Uzh Bze;rw [h,if_pos rfl];show (if isH q [40] then _ else _)=_;rw [h2];rfl
theorem szr {f:Nat} {x:Nd} {t u:Tok} {q:List Tok} (h:isW true (t::u::q)=true) (h2:isT u [40]=true):Uzh f x (t::u::q)=(Zzd f [x] q).bind fun _ ks l=>.ok (ndS 16 t.text ks) false l:=by
 unfold Uzh Bze;rw [h,if_pos rfl];show (if isH (u::q) [40] then _ else _)=_;rw [czc,h2];rfl

set_option maxHeartbeats 3200000 in
theorem Xzl (f:Nat) (hC:Vzs f) (P:Nat) (L l:List Tok) (ok:Nat→Prop) (x:Nd) (nv kv:Value) (w:World) (hf:20*l.length≤f) (F:Free P ok w) (H:Hid (PSt P L w l)) (N:Hid (NdO ok w x nv kv)) :
  Calls Tryz.prog 173 #[.pointer (some ⟨P,0,none⟩),ndv x nv kv] w (Jzz P L ok w (Uzh f x l)):=by
 obtain⟨a1,q1,a2,q2,rfl,rfl⟩:=wzd N.out;have hP:=H.out.lt;have A1:=(Below.refl _ w).alloc (Nat.le_refl _) (.cells (ndc x (.slice a1 x.names.length q1) (.slice a2 x.kids.length q2)) 26);have A2:=(Below.refl _ (w.alloc (.cells (ndc x (.slice a1 x.names.length q1) (.slice a2 x.kids.length q2)) 26))).alloc (Nat.le_refl _) (.cells znd 26);have A:=hid (Dza A1 A2);have S0:=hid (H.out.on A.out);have G0:=hid (show Blk (w.heap.size+1) 26 znd ((w.alloc (.cells (ndc x (.slice a1 x.names.length q1) (.slice a2 x.kids.length q2)) 26)).alloc (.cells znd 26)) from by
  have:=iza (w.alloc (.cells (ndc x (.slice a1 x.names.length q1) (.slice a2 x.kids.length q2)) 26)) 26 znd;simpa using this)
 have X0:=hid (bza (iza w 26 (ndc x (.slice a1 x.names.length q1) (.slice a2 x.kids.length q2))) A2);have N0:=hid (tza (sza A.out) (Bzp (ok':=(fun b=>ok b∧b≠w.heap.size+1)) N.out (fun b h1 h2=>⟨h1,by omega⟩)));unfold znd at *
 unfold ndv;cases hw:isW true l with
 | false=>
  rw [qzw hw];have HW:=hid hw;clear H N hC hw X0 N0 G0;unfold ndc at *
  go_enter Tryz.func173,Tryz.ntmps173;go_wp2_with fail;refine (izo P L l _ S0 HW.out).mono ?_;rintro e w1 ⟨rfl,b1⟩;have S1:=hid (S0.out.on b1);have B1:=hid (gza A.out (Nat.le_refl _) b1);clear b1 S0 A HW;unfold uza;go_wp2_with fail;exact⟨rfl,rfl,S1.out,But.of B1.out⟩
 | true=>
  obtain⟨t,q,rfl⟩:∃ t q,l=t::q:=by
   cases l with
   | nil=>cases hw
   | cons t q=>exact⟨t,q,rfl⟩
  have HK:=hid (ozw H.out hw);cases hh:isH q [40] with
  | false=>
   rw [nzu hw hh];have HH:=hid hh;clear H N hC hh hw;unfold ndc at *
   go_enter Tryz.func173,Tryz.ntmps173;go_wp2_with fail;refine (bzi P L t q _ S0 HK.out).mono ?_;rintro e w1 ⟨rfl,s1,b1⟩;have S1:=hid s1;have B1:=hid ((But.of (P:=P) A.out).trans b1);have G1:=hid (dza G0.out b1 (by omega));have X1:=hid (dza X0.out b1 (by omega));have N1:=hid (tza (Hzb b1 (fun h=>F.no h.1)) N0.out);have hz1:=b1.size;simp only [World.size_alloc] at hz1;clear s1 b1 S0 A G0 X0 N0;go_wp2_with fail;refine (Hza P L q ⟨#[40]⟩ _ S1 HH.out).mono ?_;rintro e w2 ⟨rfl,b2⟩;have S2:=hid (S1.out.on b2);have B2:=hid (B1.out.trans (But.of b2));have G2:=hid (bza G1.out b2);have X2:=hid (bza X1.out b2);have N2:=hid (tza (sza b2) N1.out);have hz2:=b2.size;have hg2:=fza G2.out;obtain⟨c0,c1,c2,c3,c4,c5,c6⟩:=oza X2.out;obtain⟨r0,r1,r2,r3,r4,r5,r6⟩:=oza G2.out;obtain⟨u0,u1,u2,u3,u4,u5,u6⟩:=Qza G2.out;clear b2 S1 B1 G1 X1 N1 HH;go_wp2_with fail;have Z:=Uzd (Tza hP (by omega) S2.out B2.out G2.out (.int .i64 13) (.int .i64 0) (.int .i64 0) (.string t.text) (.slice none 0 0) (.slice (some ⟨w2.heap.size,0,none⟩) 1 1) (.int .i64 0)) (.cells (ndc x (.slice a1 x.names.length q1) (.slice a2 x.kids.length q2)) 26);have K:=pzw (g:=w.heap.size+1) (T:=26) (by simp) ⟨F.up _ (by omega),by omega⟩ N2.out (.int .i64 13) (.int .i64 0) (.int .i64 0) (.string t.text) (.slice none 0 0) (.slice (some ⟨w2.heap.size,0,none⟩) 1 1) (.int .i64 0);exact bodyPost_ret (jzb rfl rfl Z.1) rfl ⟨⟨_,_,rfl,Wzg ⟨.inl ⟨_,_,rfl,rfl⟩,Wzl K (fun b h1 _=>h1.1)⟩⟩,Z.2.1,Z.2.2⟩
  | true=>
   obtain⟨u,q2',rfl,hu⟩:=wza hh;rw [szr hw hu];have HU:=hid hu;have HC:=hid (fun w' F' S N'=>hC P L q2' (fun b=>ok b∧b≠w.heap.size+1) x (.slice a1 x.names.length q1) (.slice a2 x.kids.length q2) w' (by simp at hf;omega) F' S N');clear H N hC hh hu hw;unfold ndv at HC;unfold ndc at *
   cases hq:Zzd f [x] q2' with
   | bad l'=>
    rw [hq] at HC;rw [PL.bind_bad];go_enter Tryz.func173,Tryz.ntmps173;go_wp2_with fail;refine (bzi P L t (u::q2') _ S0 HK.out).mono ?_;rintro e w1 ⟨rfl,s1,b1⟩;have S1:=hid s1;have B1:=hid ((But.of (P:=P) A.out).trans b1);have G1:=hid (dza G0.out b1 (by omega));have X1:=hid (dza X0.out b1 (by omega));have N1:=hid (tza (Hzb b1 (fun h=>F.no h.1)) N0.out);have hz1:=b1.size;simp only [World.size_alloc] at hz1;clear s1 b1 S0 A G0 X0 N0;go_wp2_with fail;refine (szb P L u q2' ⟨#[40]⟩ _ S1 HU.out).mono ?_;rintro e w2 ⟨rfl,s2,b2⟩;have S2:=hid s2;have B2:=hid (B1.out.trans b2);have G2:=hid (dza G1.out b2 (by omega));have X2:=hid (dza X1.out b2 (by omega));have N2:=hid (tza (Hzb b2 (fun h=>F.no h.1)) N1.out);have hz2:=b2.size;obtain⟨c0,c1,c2,c3,c4,c5,c6⟩:=oza X2.out;clear s2 b2 S1 B1 G1 X1 N1 HU;go_wp2_with fail;refine (HC.out _ ⟨fun b hb=>⟨F.up b (by omega),by omega⟩,fun h=>F.no h.1⟩ S2 N2).mono ?_;rintro e w3 ⟨rfl,s3,b3⟩;have S3:=hid s3;have B3:=hid (B2.out.trans b3);clear s3 b3 S2 B2 G2 X2 N2 HC;unfold uza;go_wp2_with fail;exact⟨rfl,rfl,S3.out,B3.out⟩
   | ok ns ks l'=>
    rw [hq] at HC;rw [PL.bind_ok];go_enter Tryz.func173,Tryz.ntmps173;go_wp2_with fail;refine (bzi P L t (u::q2') _ S0 HK.out).mono ?_;rintro e w1 ⟨rfl,s1,b1⟩;have S1:=hid s1;have B1:=hid ((But.of (P:=P) A.out).trans b1);have G1:=hid (dza G0.out b1 (by omega));have X1:=hid (dza X0.out b1 (by omega));have N1:=hid (tza (Hzb b1 (fun h=>F.no h.1)) N0.out);have hz1:=b1.size;simp only [World.size_alloc] at hz1;clear s1 b1 S0 A G0 X0 N0;go_wp2_with fail;refine (szb P L u q2' ⟨#[40]⟩ _ S1 HU.out).mono ?_;rintro e w2 ⟨rfl,s2,b2⟩;have S2:=hid s2;have B2:=hid (B1.out.trans b2);have G2:=hid (dza G1.out b2 (by omega));have X2:=hid (dza X1.out b2 (by omega));have N2:=hid (tza (Hzb b2 (fun h=>F.no h.1)) N1.out);have hz2:=b2.size;obtain⟨c0,c1,c2,c3,c4,c5,c6⟩:=oza X2.out;clear s2 b2 S1 B1 G1 X1 N1 HU;go_wp2_with fail;refine (HC.out _ ⟨fun b hb=>⟨F.up b (by omega),by omega⟩,fun h=>F.no h.1⟩ S2 N2).mono ?_;rintro e w3 ⟨⟨kv3,rfl,k3⟩,s3,b3⟩;obtain⟨f1,g1,rfl⟩:=tzk k3;have S3:=hid s3;have B3:=hid (B2.out.trans b3);have G3:=hid (dza G2.out b3 (by omega));have K3:=hid k3;have hg3:=fza G3.out;obtain⟨r0,r1,r2,r3,r4,r5,r6⟩:=oza G3.out;obtain⟨u0,u1,u2,u3,u4,u5,u6⟩:=Qza G3.out;clear s3 b3 k3 S2 B2 G2 X2 N2 HC;go_wp2_with fail;have Z:=Tza hP (by omega) S3.out B3.out G3.out (.int .i64 16) (.int .i64 0) (.int .i64 0) (.string t.text) (.slice none 0 0) (.slice f1 ks.length g1) (.int .i64 0);exact bodyPost_ret (jzb rfl rfl Z.1) rfl ⟨⟨_,_,rfl,Wzg ⟨.inl ⟨_,_,rfl,rfl⟩,Wzl (Vzf (szc _ (by simp) _ _ _ _ _ _ _) K3.out) (fun b h1 _=>h1.1)⟩⟩,Z.2.1,Z.2.2⟩

end Go.Proofs.YtdnnmjhfidimcaaGreatDoor
