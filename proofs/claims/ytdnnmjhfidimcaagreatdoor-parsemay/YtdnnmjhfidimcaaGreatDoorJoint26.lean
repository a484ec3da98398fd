/- Whether a node is right as a statement. Whether a tree may be a program. How long a text can be. A tree that lies below a place lies below any later one. -/
import Derived.Test.YtdnnmjhfidimcaaGreatDoorJoint25
import Derived.Test.YtdnnmjhfidimcaaGreatDoorJoint2
import Derived.Test.YtdnnmjhfidimcaaGreatDoorJoint11
namespace Go.Proofs.YtdnnmjhfidimcaaGreatDoor
open Go.RowKit

theorem Szt (o n:Int) (s:ByteArray) (ns:List ByteArray) (u v t:Nd) (p:Int):rightN (.mk 28 o n s ns [u,v,t] p) 2=(Mzc 28 o n s ns 3&&(rightN u 1&&(rightN v 3&&rightN t 3))):=by
 rw [qza,zzb];simp [nzb,Mza,isK,okB,wzb,Rza,Nza,uzb,Oza,Dzb,czb,gzb,vzb,pzc]
theorem Kzm {o n:Int} {s:ByteArray} {ns:List ByteArray} {ks:List Nd} {p:Int} (h:ks.length≠3):rightN (.mk 28 o n s ns ks p) 2=false:=by
 rw [qza];simp [okB,Oza,h]
theorem Tzt (o n:Int) (s:ByteArray) (ns:List ByteArray) (u v:Nd) (p:Int):rightN (.mk 30 o n s ns [u,v] p) 2=(Mzc 30 o n s ns 2&&(rightN u 1&&rightN v 3)):=by
 rw [qza,zzb];simp [nzb,Mza,isK,okB,wzb,Rza,Nza,uzb,Oza,Dzb,czb,gzb,vzb,pzc]
theorem Lzm {o n:Int} {s:ByteArray} {ns:List ByteArray} {ks:List Nd} {p:Int} (h:ks.length≠2):rightN (.mk 30 o n s ns ks p) 2=false:=by
 rw [qza];simp [okB,Oza,h]

set_option maxHeartbeats 6400000 in
set_option maxRecDepth 100000 in
theorem Hzv (k o n:Int) (s:ByteArray) (ns:List ByteArray) (ks:List Nd) (p:Int) (ihe:∀ x∈ks,Ozh x) (ihs:∀ x∈ks,Bzl x):Fzi (.mk k o n s ns ks p):=by
 intro B w nv kv hO hN hsm hc;obtain⟨hs6,hns,_,hsk⟩:=Yze hsm;simp only [Kza] at hc;obtain⟨hs1,hk1⟩:=ndIn_mk.1 hN.out;obtain⟨a1,q1,a2,q2,rfl,rfl⟩:=Zza hN.out;simp only [Nd.kind,Nd.op,Nd.num,Nd.str,Nd.pl,Nd.names,Nd.kids] at *
 have NEW:=hid (Izk (k:=k) (o:=o) (n:=n) (s:=s) (p:=p) hO.out hs1 hk1);have IE:=hid ihe;have IB:=hid ihs;have SK:=hid hsk;have hlen:=Uzb ks;clear hO hN hs1 hk1 hsm ihe ihs hsk;cases hbb:Mzc k o n s ns ks.length with
 | false=>
  have HB:=hid hbb;have H:=hid (Bzj (a:=2) (p:=p) hbb);clear hbb;go_enter Tryz.func86,Tryz.ntmps86;go_wp2_with fail;go_region_held3 (fun a=>(Below w.heap.size w a∧Box w.heap.size k o n s (.slice a1 ns.length q1) (.slice a2 ks.length q2) p a∧Ok B a∧azb B (.slice a1 ns.length q1) ns a∧Bzb B a (.slice a2 ks.length q2) ks)∧a.cell? ⟨w.heap.size,0,none⟩=some (.int .i64 k)∧a.cell? ⟨w.heap.size,1,none⟩=some (.int .i64 o)∧a.cell? ⟨w.heap.size,2,none⟩=some (.int .i64 n)∧a.cell? ⟨w.heap.size,3,none⟩=some (.string s)∧
     a.cell? ⟨w.heap.size,4,none⟩=some (.slice a1 ns.length q1)∧a.cell? ⟨w.heap.size,5,none⟩=some (.slice a2 ks.length q2)∧a.cell? ⟨w.heap.size,6,none⟩=some (.int .i64 p))
   (first | exact kzd (by assumption) bb | exact kzd NEW.out (Below.refl _ _).drew | exact kzd (by assumption) (Below.refl _ _).drew)
   (first
    | (go_at_call 60;refine (pzf B _ k o n s ns a1 q1 a2 ks.length q2 p (Dzf (by assumption)) (hid (Ezf (by assumption)))).mono ?_;rintro e wx ⟨x1,y1,z1,x2,z2,rfl,hst,bb⟩)
    | (go_at_call 31;refine (Tzf B _ k o n s ns a1 q1 a2 ks.length q2 p _ _ _ _ _ (Dzf (by assumption)) (Ezf (by assumption)) hst.out (by omega)).mono ?_;rintro e wx ⟨he,bb⟩;rw [HB.out] at he;subst he))
  rename_i hz;have Z:=hid hz.1.1;clear hz;go_wp2_with fail;go_ret;exact⟨by rw [H.out];rfl,Z.out⟩
 | true=>
  have HB:=hid hbb;clear hbb;go_enter Tryz.func86,Tryz.ntmps86;go_wp2_with fail;go_region_held3 (fun a=>(Below w.heap.size w a∧Box w.heap.size k o n s (.slice a1 ns.length q1) (.slice a2 ks.length q2) p a∧Ok B a∧azb B (.slice a1 ns.length q1) ns a∧Bzb B a (.slice a2 ks.length q2) ks)∧a.cell? ⟨w.heap.size,0,none⟩=some (.int .i64 k)∧a.cell? ⟨w.heap.size,1,none⟩=some (.int .i64 o)∧a.cell? ⟨w.heap.size,2,none⟩=some (.int .i64 n)∧a.cell? ⟨w.heap.size,3,none⟩=some (.string s)∧
     a.cell? ⟨w.heap.size,4,none⟩=some (.slice a1 ns.length q1)∧a.cell? ⟨w.heap.size,5,none⟩=some (.slice a2 ks.length q2)∧a.cell? ⟨w.heap.size,6,none⟩=some (.int .i64 p))
   (first | exact kzd (by assumption) bb | exact kzd NEW.out (Below.refl _ _).drew | exact kzd (by assumption) (Below.refl _ _).drew)
   (first
    | (go_at_call 60;refine (pzf B _ k o n s ns a1 q1 a2 ks.length q2 p (Dzf (by assumption)) (hid (Ezf (by assumption)))).mono ?_;rintro e wx ⟨x1,y1,z1,x2,z2,rfl,hst,bb⟩)
    | (go_at_call 31;refine (Tzf B _ k o n s ns a1 q1 a2 ks.length q2 p _ _ _ _ _ (Dzf (by assumption)) (Ezf (by assumption)) hst.out (by omega)).mono ?_;rintro e wx ⟨he,bb⟩;rw [HB.out] at he;subst he))
  rename_i hz;obtain⟨⟨zb,zx,zo,zs,zk⟩,c0,c1,c2,c3,c4,c5,c6⟩:=hz;have Z:=hid zb;have ZX:=hid zx;have ZO:=hid zo;have ZS:=hid zs;have ZK:=hid zk;clear zb zx zo zs zk NEW;by_cases hk21:k=21
  ·subst hk21;have H:=hid (show rightN (.mk 21 o n s ns ks p) 2=(properB s&&(decide (ks.length=1)&&(!ks.any fun x=>!rightN x 1))) by rw [Izt o n s ns ks p,HB.out,Bool.true_and]);go_wp2_with fail;refine (Yzf s _).mono ?_;rintro e wz ⟨rfl,rfl⟩;generalize properB s=nb at *
   cases nb
   ·go_wp2_with fail;go_ret;exact⟨by rw [H.out];rfl,Z.out⟩
   ·go_wp2_with fail;refine (kzb B _ _ ks 1 ZO ZK SK.out (by omega) IE.out).mono ?_;rintro e wz ⟨rfl,bz⟩;have ZZ:=hid (gza Z.out (Nat.le_refl _) bz);clear bz;go_wp2_with fail;go_ret;exact⟨by rw [H.out];rfl,ZZ.out⟩
  by_cases hk22:k=22
  ·subst hk22;have H:=hid (show rightN (.mk 22 o n s ns ks p) 2=(properB s&&(decide (ks.length=1)&&(!ks.any fun x=>!rightN x 1))) by rw [Jzt o n s ns ks p,HB.out,Bool.true_and]);go_wp2_with fail;refine (Yzf s _).mono ?_;rintro e wz ⟨rfl,rfl⟩;generalize properB s=nb at *
   cases nb
   ·go_wp2_with fail;go_ret;exact⟨by rw [H.out];rfl,Z.out⟩
   ·go_wp2_with fail;refine (kzb B _ _ ks 1 ZO ZK SK.out (by omega) IE.out).mono ?_;rintro e wz ⟨rfl,bz⟩;have ZZ:=hid (gza Z.out (Nat.le_refl _) bz);clear bz;go_wp2_with fail;go_ret;exact⟨by rw [H.out];rfl,ZZ.out⟩
  by_cases hk23:k=23
  ·subst hk23;have H:=hid (show rightN (.mk 23 o n s ns ks p) 2=(Izb s&&(decide (ks.length=2)&&(!ks.any fun x=>!rightN x 1))) by rw [Kzt o n s ns ks p,HB.out,Bool.true_and]);go_wp2_with fail;refine (Ozd s _).mono ?_;rintro e wz ⟨rfl,rfl⟩;have HP:=hid (show Izb s=nameB s.data.toList from rfl);rw [HP.out] at H;clear HP;generalize nameB s.data.toList=nb at *
   cases nb
   ·go_wp2_with fail;go_ret;exact⟨by rw [H.out];rfl,Z.out⟩
   ·go_wp2_with fail;refine (kzb B _ _ ks 2 ZO ZK SK.out (by omega) IE.out).mono ?_;rintro e wz ⟨rfl,bz⟩;have ZZ:=hid (gza Z.out (Nat.le_refl _) bz);clear bz;go_wp2_with fail;go_ret;exact⟨by rw [H.out];rfl,ZZ.out⟩
  by_cases hk24:k=24
  ·subst hk24;have H:=hid (show rightN (.mk 24 o n s ns ks p) 2=(decide (ks.length=3)&&(!ks.any fun x=>!rightN x 1)) by rw [Lzt o n s ns ks p,HB.out,Bool.true_and]);go_wp2_with fail;refine (kzb B _ _ ks 3 ZO ZK SK.out (by omega) IE.out).mono ?_;rintro e wz ⟨rfl,bz⟩;have ZZ:=hid (gza Z.out (Nat.le_refl _) bz);clear bz;go_wp2_with fail;go_ret;exact⟨by rw [H.out];rfl,ZZ.out⟩
  by_cases hk25:k=25
  ·subst hk25;have H:=hid (show rightN (.mk 25 o n s ns ks p) 2=(Izb s&&(decide (ks.length=1)&&(!ks.any fun x=>!rightN x 1))) by rw [Mzt o n s ns ks p,HB.out,Bool.true_and]);go_wp2_with fail;refine (Ozd s _).mono ?_;rintro e wz ⟨rfl,rfl⟩;have HP:=hid (show Izb s=nameB s.data.toList from rfl);rw [HP.out] at H;clear HP;generalize nameB s.data.toList=nb at *
   cases nb
   ·go_wp2_with fail;go_ret;exact⟨by rw [H.out];rfl,Z.out⟩
   ·go_wp2_with fail;refine (kzb B _ _ ks 1 ZO ZK SK.out (by omega) IE.out).mono ?_;rintro e wz ⟨rfl,bz⟩;have ZZ:=hid (gza Z.out (Nat.le_refl _) bz);clear bz;go_wp2_with fail;go_ret;exact⟨by rw [H.out];rfl,ZZ.out⟩
  by_cases hk26:k=26
  ·subst hk26;have H:=hid (show rightN (.mk 26 o n s ns ks p) 2=(decide (ks.length=2)&&(!ks.any fun x=>!rightN x 1)) by rw [Nzt o n s ns ks p,HB.out,Bool.true_and]);go_wp2_with fail;refine (kzb B _ _ ks 2 ZO ZK SK.out (by omega) IE.out).mono ?_;rintro e wz ⟨rfl,bz⟩;have ZZ:=hid (gza Z.out (Nat.le_refl _) bz);clear bz;go_wp2_with fail;go_ret;exact⟨by rw [H.out];rfl,ZZ.out⟩
  by_cases hk27:k=27
  ·subst hk27;have H:=hid (show rightN (.mk 27 o n s ns ks p) 2=(decide (ks.length=1)&&(!ks.any fun x=>!rightN x 1)) by rw [Ozt o n s ns ks p,HB.out,Bool.true_and]);go_wp2_with fail;refine (kzb B _ _ ks 1 ZO ZK SK.out (by omega) IE.out).mono ?_;rintro e wz ⟨rfl,bz⟩;have ZZ:=hid (gza Z.out (Nat.le_refl _) bz);clear bz;go_wp2_with fail;go_ret;exact⟨by rw [H.out];rfl,ZZ.out⟩
  by_cases hk28:k=28
  ·subst hk28;by_cases hl:ks.length=3
   ·obtain⟨u,v,t,rfl⟩:=izj hl;have H:=hid (show rightN (.mk 28 o n s ns [u,v,t] p) 2=(rightN u 1&&(rightN v 3&&rightN t 3)) by rw [Szt,show Mzc 28 o n s ns 3=true from HB.out,Bool.true_and]);have hcu:Kza u≤1000000∧Kza v≤1000000∧Kza t≤1000000:=by simp only [Vza] at hc;omega
    obtain⟨hcu,hcv,hct⟩:=hcu;clear hl hc hlen HB;simp only [List.length_cons,List.length_nil,Nat.zero_add,Nat.reduceAdd] at *
    obtain⟨b,off,rfl,hbB,hat⟩:=ezd ZK.out (by simp);obtain⟨nu,ku,hnu,hiu⟩:=Vzc hat 0 (by simp);simp only [List.getElem_cons_zero,Nat.zero_mul,Nat.add_zero] at hnu hiu;obtain⟨gu0,gu1,gu2,gu3,rfl,rfl⟩:=Zza hiu;obtain⟨mu0,mu1,mu2,mu3,mu4,mu5,mu6⟩:=hnu;have Nu:=hid hiu;have HAT0:=hid hat;clear hiu hat;go_wp2_with fail;refine (IE.out u (by simp) B _ _ _ ZO Nu (SK.out u (by simp)) (by omega)).mono ?_;rintro e wz0 ⟨rfl,bz0⟩;have Z0:=hid (gza Z.out (Nat.le_refl _) bz0);have bq:=bz0.mono ZO.out.1;have X0:=hid (kzg ZX.out bz0);have c5_0:=(hza X0.out).2.2.2.2.2.1;have O0:=hid (nza ZO.out bq);have hat0:=Yzc bq hbB _ _ HAT0.out;clear bz0 bq Nu HAT0;generalize rightN u 1=r0 at *
    cases r0
    ·go_wp2_with fail;go_ret;exact⟨by rw [H.out];rfl,Z0.out⟩
    ·clear c5;obtain⟨nv,kv,hnv,hiv⟩:=Vzc hat0 1 (by simp);simp only [List.getElem_cons_succ,List.getElem_cons_zero,Nat.one_mul] at hnv hiv;obtain⟨gv0,gv1,gv2,gv3,rfl,rfl⟩:=Zza hiv;obtain⟨mv0,mv1,mv2,mv3,mv4,mv5,mv6⟩:=hnv;have Nv:=hid hiv;have HAT1:=hid hat0;clear hiv hat0;go_wp2_with fail;refine (IB.out v (by simp) B _ _ _ O0 Nv (SK.out v (by simp)) (by omega)).mono ?_;rintro e wz1 ⟨rfl,bz1⟩;have Z1:=hid (gza Z0.out (Nat.le_refl _) bz1);have bq:=bz1.mono O0.out.1;have X1:=hid (kzg X0.out bz1);have c5_1:=(hza X1.out).2.2.2.2.2.1;have O1:=hid (nza O0.out bq);have hat1:=Yzc bq hbB _ _ HAT1.out;clear bz1 bq Nv HAT1;generalize rightN v 3=r1 at *
     cases r1
     ·go_wp2_with fail;go_ret;exact⟨by rw [H.out];rfl,Z1.out⟩
     ·clear c5_0;obtain⟨nt,kt,hnt,hit⟩:=Vzc hat1 2 (by simp);simp only [List.getElem_cons_succ,List.getElem_cons_zero,Nat.reduceMul] at hnt hit;obtain⟨gt0,gt1,gt2,gt3,rfl,rfl⟩:=Zza hit;obtain⟨mt0,mt1,mt2,mt3,mt4,mt5,mt6⟩:=hnt;have Nt:=hid hit;have HAT2:=hid hat1;clear hit hat1;go_wp2_with fail;refine (IB.out t (by simp) B _ _ _ O1 Nt (SK.out t (by simp)) (by omega)).mono ?_;rintro e wz2 ⟨rfl,bz2⟩;have Z2:=hid (gza Z1.out (Nat.le_refl _) bz2);have bq:=bz2.mono O1.out.1;have X2:=hid (kzg X1.out bz2);have c5_2:=(hza X2.out).2.2.2.2.2.1;have O2:=hid (nza O1.out bq);have hat2:=Yzc bq hbB _ _ HAT2.out;clear bz2 bq Nt HAT2;generalize rightN t 3=r2 at *
      cases r2
      ·go_wp2_with fail;go_ret;exact⟨by rw [H.out];rfl,Z2.out⟩
      ·clear hat2;go_wp2_with fail;go_ret;exact⟨by rw [H.out];rfl,Z2.out⟩
   ·have H:=hid (show rightN (.mk 28 o n s ns ks p) 2=false from Kzm hl);have e0:((ks.length:Int)==3)=false:=beq_eq_false_iff_ne.2 (by omega);clear hl;go_wp2_with fail;go_ret;exact⟨by rw [H.out];rfl,Z.out⟩
  by_cases hk30:k=30
  ·subst hk30;by_cases hl:ks.length=2
   ·obtain⟨u,v,rfl⟩:=dzg hl;have H:=hid (show rightN (.mk 30 o n s ns [u,v] p) 2=(rightN u 1&&rightN v 3) by rw [Tzt,show Mzc 30 o n s ns 2=true from HB.out,Bool.true_and]);have hcu:Kza u≤1000000∧Kza v≤1000000:=by simp only [Vza] at hc;omega
    obtain⟨hcu,hcv⟩:=hcu;clear hl hc hlen HB;simp only [List.length_cons,List.length_nil,Nat.zero_add,Nat.reduceAdd] at *
    obtain⟨b,off,rfl,hbB,hat⟩:=ezd ZK.out (by simp);obtain⟨nu,ku,hnu,hiu⟩:=Vzc hat 0 (by simp);simp only [List.getElem_cons_zero,Nat.zero_mul,Nat.add_zero] at hnu hiu;obtain⟨gu0,gu1,gu2,gu3,rfl,rfl⟩:=Zza hiu;obtain⟨mu0,mu1,mu2,mu3,mu4,mu5,mu6⟩:=hnu;have Nu:=hid hiu;have HAT0:=hid hat;clear hiu hat;go_wp2_with fail;refine (IE.out u (by simp) B _ _ _ ZO Nu (SK.out u (by simp)) (by omega)).mono ?_;rintro e wz0 ⟨rfl,bz0⟩;have Z0:=hid (gza Z.out (Nat.le_refl _) bz0);have bq:=bz0.mono ZO.out.1;have X0:=hid (kzg ZX.out bz0);have c5_0:=(hza X0.out).2.2.2.2.2.1;have O0:=hid (nza ZO.out bq);have hat0:=Yzc bq hbB _ _ HAT0.out;clear bz0 bq Nu HAT0;generalize rightN u 1=r0 at *
    cases r0
    ·go_wp2_with fail;go_ret;exact⟨by rw [H.out];rfl,Z0.out⟩
    ·clear c5;obtain⟨nv,kv,hnv,hiv⟩:=Vzc hat0 1 (by simp);simp only [List.getElem_cons_succ,List.getElem_cons_zero,Nat.one_mul] at hnv hiv;obtain⟨gv0,gv1,gv2,gv3,rfl,rfl⟩:=Zza hiv;obtain⟨mv0,mv1,mv2,mv3,mv4,mv5,mv6⟩:=hnv;have Nv:=hid hiv;have HAT1:=hid hat0;clear hiv hat0;go_wp2_with fail;refine (IB.out v (by simp) B _ _ _ O0 Nv (SK.out v (by simp)) (by omega)).mono ?_;rintro e wz1 ⟨rfl,bz1⟩;have Z1:=hid (gza Z0.out (Nat.le_refl _) bz1);have bq:=bz1.mono O0.out.1;have X1:=hid (kzg X0.out bz1);have c5_1:=(hza X1.out).2.2.2.2.2.1;have O1:=hid (nza O0.out bq);have hat1:=Yzc bq hbB _ _ HAT1.out;clear bz1 bq Nv HAT1;generalize rightN v 3=r1 at *
     cases r1
     ·go_wp2_with fail;go_ret;exact⟨by rw [H.out];rfl,Z1.out⟩
     ·clear hat1;go_wp2_with fail;go_ret;exact⟨by rw [H.out];rfl,Z1.out⟩
   ·have H:=hid (show rightN (.mk 30 o n s ns ks p) 2=false from Lzm hl);have e0:((ks.length:Int)==2)=false:=beq_eq_false_iff_ne.2 (by omega);clear hl;go_wp2_with fail;go_ret;exact⟨by rw [H.out];rfl,Z.out⟩
  by_cases hk31:k=31
  ·subst hk31;have H:=hid (show rightN (.mk 31 o n s ns ks p) 2=(decide (ks.length=1)&&(!ks.any fun x=>!rightN x 1)) by rw [Pzt o n s ns ks p,HB.out,Bool.true_and]);go_wp2_with fail;refine (kzb B _ _ ks 1 ZO ZK SK.out (by omega) IE.out).mono ?_;rintro e wz ⟨rfl,bz⟩;have ZZ:=hid (gza Z.out (Nat.le_refl _) bz);clear bz;go_wp2_with fail;go_ret;exact⟨by rw [H.out];rfl,ZZ.out⟩
  by_cases hk32:k=32
  ·subst hk32;have H:=hid (show rightN (.mk 32 o n s ns ks p) 2=(decide (ks.length=1)&&(!ks.any fun x=>!rightN x 1)) by rw [Qzt o n s ns ks p,HB.out,Bool.true_and]);go_wp2_with fail;refine (kzb B _ _ ks 1 ZO ZK SK.out (by omega) IE.out).mono ?_;rintro e wz ⟨rfl,bz⟩;have ZZ:=hid (gza Z.out (Nat.le_refl _) bz);clear bz;go_wp2_with fail;go_ret;exact⟨by rw [H.out];rfl,ZZ.out⟩
  have H:=hid (show rightN (.mk k o n s ns ks p) 2=false by rw [qza,ozp (by omega)];rfl);have e21:(k==21)=false:=beq_eq_false_iff_ne.2 hk21;have e22:(k==22)=false:=beq_eq_false_iff_ne.2 hk22;have e23:(k==23)=false:=beq_eq_false_iff_ne.2 hk23;have e24:(k==24)=false:=beq_eq_false_iff_ne.2 hk24;have e25:(k==25)=false:=beq_eq_false_iff_ne.2 hk25;have e26:(k==26)=false:=beq_eq_false_iff_ne.2 hk26;have e27:(k==27)=false:=beq_eq_false_iff_ne.2 hk27;have e28:(k==28)=false:=beq_eq_false_iff_ne.2 hk28;have e30:(k==30)=false:=beq_eq_false_iff_ne.2 hk30;have e31:(k==31)=false:=beq_eq_false_iff_ne.2 hk31;have e32:(k==32)=false:=beq_eq_false_iff_ne.2 hk32;clear hk21 hk22 hk23 hk24 hk25 hk26 hk27 hk28 hk30 hk31 hk32;go_wp2_with fail;go_ret;exact⟨by rw [H.out];rfl,Z.out⟩

theorem Dzq (x:Nd):Ozh x∧Fzi x∧Bzl x:=by
 refine Nd.ind (P:=fun x=>Ozh x∧Fzi x∧Bzl x) ?_ x;intro k o n s ns ks p ih;exact⟨Gzv k o n s ns ks p (fun x hx=>(ih x hx).1) (fun x hx=>(ih x hx).2.1),Hzv k o n s ns ks p (fun x hx=>(ih x hx).1) (fun x hx=>(ih x hx).2.2),Dzs k o n s ns ks p (fun x hx=>(ih x hx).2.1)⟩

end Go.Proofs.YtdnnmjhfidimcaaGreatDoor

namespace Go.Proofs.YtdnnmjhfidimcaaGreatDoor
open Go.RowKit

set_option maxHeartbeats 1600000 in
theorem Pzh (x:Nd) (B:Nat) (w:World) (nv kv:Value) (hO:Hid (Ok B w)) (hN:Hid (Xze B w x nv kv)) (hs:Ozb x=true) (hc:Kza x≤1000000) :
  Calls Tryz.prog 18 #[.agg #[.int .i64 x.kind,.int .i64 x.op,.int .i64 x.num,.string x.str,nv,kv,.int .i64 x.pl]] w fun e w'=>
   e=.returned (.int .i64 (checkN x))∧Below w.heap.size w w':=by
 obtain⟨a1,q1,a2,q2,rfl,rfl⟩:=Zza hN.out;have hal:=(Below.refl w.heap.size w).alloc (Nat.le_refl _) (.cells #[.int .i64 x.kind,.int .i64 x.op,.int .i64 x.num,.string x.str,.slice a1 x.names.length q1,.slice a2 x.kids.length q2,.int .i64 x.pl] 26);have hB:=hO.out.1;have AL:=hid hal;have N:=hid (Mzd (hal.mono hB) _ _ _ hN.out);have O:=hid (nza hO.out (hal.mono hB));have X:=hid (Wza w x.kind x.op x.num x.str (.slice a1 x.names.length q1) (.slice a2 x.kids.length q2) x.pl);have HS:=hid hs;have H:=hid (show checkN x=if decide (12<Dzc x) then 13 else if rightN x 3 then 0 else 2 by unfold checkN;simp only [decide_eq_true_eq]);clear hal hN hO hs;go_enter Tryz.func18,Tryz.ntmps18;go_wp2_with fail;refine (Wzo x B _ _ _ 12 (by simp;omega) N hc (by omega)).mono ?_;rintro e w1 ⟨rfl,b1⟩;have B1:=hid (gza AL.out (by simp) b1);have bq:Below B _ w1:=b1.mono (by simp;omega);have N1:=hid (Mzd bq _ _ _ N.out);have O1:=hid (nza O.out bq);obtain⟨c0,c1,c2,c3,c4,c5,c6⟩:=hza (kzg X.out b1);clear b1 bq N O X AL;generalize decide (12<Dzc x)=hb at *
 cases hb
 ·go_wp2_with fail;refine ((Dzq x).2.2 B _ _ _ O1 N1 HS.out hc).mono ?_;rintro e w2 ⟨rfl,b2⟩;have B2:=hid (gza B1.out (Nat.le_refl _) b2);clear b2 B1 N1 O1;generalize rightN x 3=rb at *
  cases rb
  ·go_wp2_with fail;go_ret;exact⟨by rw [H.out];rfl,B2.out⟩
  ·go_wp2_with fail;go_ret;exact⟨by rw [H.out];rfl,B2.out⟩
 ·go_wp2_with fail;go_ret;exact⟨by rw [H.out];rfl,B1.out⟩

end Go.Proofs.YtdnnmjhfidimcaaGreatDoor

namespace Go.Proofs.YtdnnmjhfidimcaaGreatDoor
open Go.RowKit

def mx (t:Tx):Nat:=max t.e.length (max t.s.length t.b.length)
def pzg (l:List Tx):Nat:=(l.map fun t=>mx t+4).sum
theorem ezp (t:Tx):t.e.length≤mx t:=by unfold mx;omega
theorem LzA (t:Tx):t.s.length≤mx t:=by unfold mx;omega
theorem MzA (t:Tx):t.b.length≤mx t:=by unfold mx;omega
theorem Nze (t:Tx) (l:List Tx):pzg (t::l)=mx t+4+pzg l:=by simp [pzg]
theorem Qzm:∀ l:List Tx,(Xzf l).length≤pzg l
 | []=>by simp [Xzf]
 | t::l=>by
  have:=Qzm l;have:=ezp t;rw [Nze];simp only [Xzf,List.flatMap_cons,List.length_append,List.length_cons] at *
  omega
theorem Dzj:∀ l:List Tx,(Gzc l).length≤pzg l
 | []=>by simp [Gzc]
 | t::l=>by
  have:=Dzj l;have:=LzA t;rw [Nze];simp only [Gzc,List.flatMap_cons,List.length_append,List.length_cons] at *
  omega
theorem Uzx (l:List Tx):(hze l).length≤pzg l:=by
 cases l with
 | nil=>simp [hze]
 | cons t l=>
  have:=Qzm l;have:=ezp t;rw [Nze,hze,List.length_append];omega
theorem Gzq (l:List Tx):(Szd l).length≤pzg l+2:=by
 have:=Uzx l;unfold Szd;simp;omega
theorem czo (l:List Tx):(blockT l).length≤pzg l+3:=by
 have:=Dzj l;unfold blockT;split<;>simp<;>omega
theorem Hzq (l:List Tx):(Rzb l).length≤pzg l:=by
 cases l with
 | nil=>simp [Rzb]
 | cons t l=>
  have:=Dzj l;have:=LzA t;rw [Nze,Rzb,List.length_append];omega
theorem Vzx (l:List Tx):mx (at0 l)+mx (at1 l)+mx (at2 l)≤pzg l:=by
 have hn:mx Tx.none=0:=rfl;match l with
 | []=>simp [at0,at1,at2,hn]
 | [x]=>simp [at0,at1,at2,hn,pzg]<;>omega
 | [x,y]=>simp [at0,at1,at2,hn,pzg]<;>omega
 | x::y::z::r=>simp [at0,at1,at2,pzg]<;>omega
theorem Wzx (l:List Tx):mx (at0 l)+pzg l.tail≤pzg l:=by
 have hn:mx Tx.none=0:=rfl;cases l with
 | nil=>simp [at0,hn,pzg]
 | cons x r=>rw [Nze];simp [at0]<;>omega
theorem sze (x:Tx) (r:Int):(bzb x r).length≤mx x+2:=by
 have:=ezp x;unfold bzb;split
 ·omega
 ·simp;omega
theorem Rzm:∀ (ns:List ByteArray) (l:List Tx),(∀ x∈ns,x.size≤100)→(tzd ns l).length≤pzg l+102*ns.length
 | [],l,_=>by simp [tzd]
 | s::ns,[],_=>by simp [tzd]
 | s::ns,t::l,h=>by
  have:=Rzm ns l (fun x hx=>h x (by simp [hx]));have h1:=h s (by simp);have:=ezp t;have:=fzb s;rw [Nze];simp only [tzd,Pzf,List.length_append,List.length_cons];omega
theorem rzz (ns:List ByteArray) (l:List Tx) (h:∀ x∈ns,x.size≤100) (hn:ns.length≤60):(Qzg ns l).length≤pzg l+7000:=by
 cases ns with
 | nil=>simp [Qzg]
 | cons s ns=>
  cases l with
  | nil=>simp [Qzg]
  | cons t l=>
   have:=Rzm ns l (fun x hx=>h x (by simp [hx]));have h1:=h s (by simp);have:=ezp t;have:=fzb s;rw [Nze];simp only [List.length_cons] at hn;simp only [Qzg,Pzf,List.length_append,List.length_cons,List.length_nil];omega
theorem Xzx (ns:List ByteArray) (h:∀ x∈ns,x.size≤100) (hn:ns.length≤60):(gzg ns).length≤7000:=by
 have key:∀ ns:List ByteArray,(∀ x∈ns,x.size≤100)→(ns.flatMap fun x=>44::32::x.data.toList).length≤102*ns.length:=by
  intro ns;induction ns with
  | nil=>intro _;simp
  | cons s ns ih=>
   intro h;have:=ih (fun x hx=>h x (by simp [hx]));have h1:=h s (by simp);have:=fzb s;simp only [List.flatMap_cons,List.length_append,List.length_cons] at *
   omega
 cases ns with
 | nil=>simp [gzg]
 | cons s ns=>
  have:=key ns (fun x hx=>h x (by simp [hx]));have h1:=h s (by simp);have:=fzb s;simp only [List.length_cons] at hn;simp only [gzg,List.length_append];omega
theorem Yzx (k n:Int) (s:ByteArray) (h:s.size≤600):(Izd k n s).length≤2500:=by
 have h1:=gzp n;have h2:=Uzm s.data.toList;have h3:=fzb s;unfold Izd;split
 ·simp
 split
 ·simp
 split
 ·split<;>simp
 split
 ·omega
 split<;>omega
theorem Pzv (o:Int):(signT o).length≤2:=by
 unfold signT;split
 ·simp
 ·rw [List.getD_eq_getElem?_getD];cases h:tsgnL[o.toNat]? with
  | none=>simp
  | some x=>
   have hx:=List.mem_of_getElem? h;have:∀ y∈tsgnL,y.length≤2:=by decide
   simpa using this x hx
theorem Mzs (o:Int):(builtT o).1.length≤100:=by
 unfold builtT;split
 ·simp
 ·rw [List.getD_eq_getElem?_getD];cases h:builtL[o.toNat]? with
  | none=>simp
  | some x=>
   have hx:=List.mem_of_getElem? h;have:∀ y∈builtL,y.1.length≤100:=by decide
   simpa using this x hx

set_option maxHeartbeats 6400000 in
theorem Zzx (k o n:Int) (s:ByteArray) (ns:List ByteArray) (l:List Tx) (hs:s.size≤600) (h:∀ x∈ns,x.size≤100) (hn:ns.length≤60):(exprT k o n s ns l).length≤pzg l+9000:=by
 have a:=Vzx l;have t:=Wzx l;have ob:=rzz ns l h hn;have jo:=Xzx ns h hn;have bl:=czo l;have ag:=Gzq l;have ag2:=Gzq l.tail;have wd:=Yzx k n s hs;have sg:=Pzv o;have bt:=Mzs o;have sz:=fzb s;have t7:=sze (at0 l) 7;have t8:=sze (at0 l) 8;have e1:=ezp (at1 l);unfold exprT;split
 ·omega
 split
 ·simp only [List.length_append,List.length_cons,List.length_nil];omega
 split
 ·simp only [List.length_cons];omega
 split
 ·have:=sze (at0 l) (rankT 10 o);have:=sze (at1 l) (rankT 10 o+1);simp only [Fzc,List.length_append,List.length_cons];omega
 split
 ·have:=sze (at0 l) 2;have:=sze (at1 l) (2+1);simp only [Fzc,List.length_append,List.length_cons,List.length_nil];omega
 split
 ·have:=sze (at0 l) 1;have:=sze (at1 l) (1+1);simp only [Fzc,List.length_append,List.length_cons,List.length_nil];omega
 split
 ·simp only [Pzd,List.length_append,List.length_cons];omega
 split
 ·simp only [izc,List.length_append,List.length_cons,List.length_nil];omega
 split
 ·have:=sze (at0 l) (if (at0 l).kind=13 then 9 else 8);simp only [List.length_append];omega
 split
 ·simp only [Pzd,List.length_append,List.length_cons];omega
 split
 ·simp only [List.length_append];omega
 ·omega
set_option maxHeartbeats 6400000 in
theorem azy (k:Int) (s:ByteArray) (l:List Tx) (hs:s.size≤600):(stmtT k s l).length≤pzg l+9000:=by
 have a:=Vzx l;have sz:=fzb s;have t8:=sze (at0 l) 8;have e0:=ezp (at0 l);have e1:=ezp (at1 l);have e2:=ezp (at2 l);have b1:=MzA (at1 l);have b2:=MzA (at2 l);have sh:(uzm k s l).length≤pzg l+8000:=by
  unfold uzm;split
  ·simp only [Eza,List.length_append,List.length_cons,List.length_nil];omega
  split
  ·simp only [Eza,List.length_append,List.length_cons];omega
  split
  ·simp only [Pzd,Eza,List.length_append,List.length_cons];omega
  split
  ·simp only [izc,Eza,List.length_append,List.length_cons,List.length_nil];omega
  split
  ·simp only [Pzd,List.length_append,List.length_cons,List.length_nil];omega
  split
  ·simp only [izc,List.length_append,List.length_cons,List.length_nil];omega
  split
  ·simp only [List.length_append,List.length_cons,List.length_nil];omega
  split
  ·simp only [List.length_append,List.length_cons,List.length_nil];omega
  split
  ·omega
  ·simp
 unfold stmtT;split
 ·split<;>simp only [Nzb,List.length_append,List.length_cons,List.length_nil]<;>omega
 split
 ·simp only [Nzb,List.length_append,List.length_cons,List.length_nil];omega
 ·simp only [List.length_append,List.length_cons,List.length_nil];omega

theorem bzy (x:Nd):Ozb x=true→mx (textN x)+4≤10010*Kza x:=by
 refine Nd.ind (P:=fun x=>Ozb x=true→mx (textN x)+4≤10010*Kza x) ?_ x;intro k o n s ns ks p ih hs;obtain⟨h600,h60,h100,hsk⟩:=Yze hs;have key:pzg (ks.map textN)≤10010*Vza ks:=by
  clear hs;induction ks with
  | nil=>simp [pzg]
  | cons y r ih2=>
   have h1:=ih y (by simp) (hsk y (by simp));have h2:=ih2 (fun z hz=>ih z (by simp [hz])) (fun z hz=>hsk z (by simp [hz]));rw [List.map_cons,Nze,Vza];omega
 have he:=Zzx k o n s ns (ks.map textN) h600 h100 h60;have hst:=azy k s (ks.map textN) h600;have hb:=czo (ks.map textN);rw [xzf,Kza];unfold mx;simp only;omega

theorem Qzv (x:Nd) (hs:Ozb x=true) (hc:Kza x≤1000):(gzf x).length≤100000000:=by
 obtain⟨k,o,n,s,ns,ks,p⟩:=x;obtain⟨_,_,_,hsk⟩:=Yze hs;have key:pzg (ks.map textN)≤10010*Vza ks:=by
  clear hs hc;induction ks with
  | nil=>simp [pzg]
  | cons y r ih2=>
   have h1:=bzy y (hsk y (by simp));have h2:=ih2 (fun z hz=>hsk z (by simp [hz]));rw [List.map_cons,Nze,Vza];omega
 have:=Hzq (ks.map textN);simp only [Kza] at hc;unfold gzf;simp only [Nd.kids];omega

end Go.Proofs.YtdnnmjhfidimcaaGreatDoor

namespace Go.Proofs.YtdnnmjhfidimcaaGreatDoor
open Go.RowKit

theorem Rzv {B B':Nat} {w:World} {v:Value} {l:List ByteArray} (hB:B≤B') (h:azb B v l w):azb B' v l w:=by
 rcases h with h | ⟨b,off,cap,h1,h2,h3,h4⟩
 ·exact .inl h
 ·exact .inr ⟨b,off,cap,h1,Nat.lt_of_lt_of_le h2 hB,h3,h4⟩
mutual
theorem szz {B B':Nat} {w:World} (hB:B≤B'):∀ (t:Nd) (nv kv:Value),Xze B w t nv kv→Xze B' w t nv kv
 | .mk _ _ _ _ ns ks _,nv,kv,h=>by
  rw [Xze] at h ⊢;obtain⟨h1,h2⟩:=h;refine⟨Rzv hB h1,?_⟩;rcases h2 with h2 | ⟨b,off,cap,e,hb,h3,h4⟩
  ·exact .inl h2
  ·exact .inr ⟨b,off,cap,e,Nat.lt_of_lt_of_le hb hB,Szm hB ks off h3,h4⟩
theorem Szm {B B':Nat} {w:World} {b:Nat} (hB:B≤B'):∀ (ks:List Nd) (off:Nat),wze B w b ks off→wze B' w b ks off
 | [],_,_=>by rw [wze];trivial
 | .mk k op n s ns ks p::r,off,h=>by
  rw [wze] at h ⊢;obtain⟨⟨nv,kv,h1,h2⟩,h3⟩:=h;exact⟨⟨nv,kv,h1,szz hB _ _ _ h2⟩,Szm hB r _ h3⟩
end
theorem Szv {B B':Nat} {w:World} {kv:Value} {ks:List Nd} (hB:B≤B') (h:Bzb B w kv ks):Bzb B' w kv ks:=by
 rcases h with h2 | ⟨b,off,cap,e,hb,h3,h4⟩
 ·exact .inl h2
 ·exact .inr ⟨b,off,cap,e,Nat.lt_of_lt_of_le hb hB,Szm hB ks off h3,h4⟩
theorem NzA {B B':Nat} {w:World} (hB:B≤B') (hw:B'≤w.heap.size) (h:Ok B w):Ok B' w:=⟨hw,Nat.lt_of_lt_of_le h.2.1 hB,h.2.2⟩

end Go.Proofs.YtdnnmjhfidimcaaGreatDoor
