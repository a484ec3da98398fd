/- Whether a node is right as a statement. Whether a tree may be a program. How long a text can be. A tree that lies below a place lies below any later one. -/
import Derived.Test.YtdnnmjhfidimcaaGreatDoorJoint25
import Derived.Test.YtdnnmjhfidimcaaGreatDoorJoint2
import Derived.Test.YtdnnmjhfidimcaaGreatDoorJoint11
namespace Go.Proofs.YtdnnmjhfidimcaaGreatDoor
set_option maxHeartbeats 6400000
set_option maxRecDepth 100000
open Go.RowKit
theorem Jr (o n:Int) (s:ByteArray) (ns:List ByteArray) (u v t:Nd) (p:Int):rightN (.mk 28 o n s ns [u,v,t] p) 2=(fP 28 o n s ns 3&&(rightN u 1&&(rightN v 3&&rightN t 3))):=by
 rw [aQ,cW];simp [cL,bJ,jS,kD,cT,bQ,bM,cR,bN,dC,cC,cG,cS,eQ]
theorem AM {o n:Int} {s:ByteArray} {ns:List ByteArray} {ks:List Nd} {p:Int} (h:ks.length≠3):rightN (.mk 28 o n s ns ks p) 2=false:=by
 rw [aQ];simp [kD,bN,h]
theorem Js (o n:Int) (s:ByteArray) (ns:List ByteArray) (u v:Nd) (p:Int):rightN (.mk 30 o n s ns [u,v] p) 2=(fP 30 o n s ns 2&&(rightN u 1&&rightN v 3)):=by
 rw [aQ,cW];simp [cL,bJ,jS,kD,cT,bQ,bM,cR,bN,dC,cC,cG,cS,eQ]
theorem AN {o n:Int} {s:ByteArray} {ns:List ByteArray} {ks:List Nd} {p:Int} (h:ks.length≠2):rightN (.mk 30 o n s ns ks p) 2=false:=by
 rw [aQ];simp [kD,bN,h]
theorem Ln (k o n:Int) (s:ByteArray) (ns:List ByteArray) (ks:List Nd) (p:Int) (ihe:∀ x∈ks,qX x) (ihs:∀ x∈ks,yS x):sR (.mk k o n s ns ks p):=by
 intro B w nv kv hO hN hsm hc;obtain⟨hs6,hns,_,hsk⟩:=lC hsm;simp only [bH] at hc;obtain⟨hs1,hk1⟩:=ndIn_mk.1 hN.out;obtain⟨a1,q1,a2,q2,rfl,rfl⟩:=bY hN.out;simp only [Nd.kind,Nd.op,Nd.num,Nd.str,Nd.pl,Nd.names,Nd.kids] at *
 have NEW:=aA (wY (k:=k) (o:=o) (n:=n) (s:=s) (p:=p) hO.out hs1 hk1);have IE:=aA ihe;have IB:=aA ihs;have SK:=aA hsk;have hlen:=dW ks;clear hO hN hs1 hk1 hsm ihe ihs hsk;cases hbb:fP k o n s ns ks.length with
 | false=>
  have HB:=aA hbb;have H:=aA (uP (a:=2) (p:=p) hbb);clear hbb;go_enter Tryz.func86,Tryz.ntmps86;go_wp2_with fail;go_region_held3 (fun a=>(Below w.heap.size w a∧mL w.heap.size k o n s (.slice a1 ns.length q1) (.slice a2 ks.length q2) p a∧Ok B a∧cA B (.slice a1 ns.length q1) ns a∧dA B a (.slice a2 ks.length q2) ks)∧a.cell? ⟨w.heap.size,0,none⟩=some (.int .i64 k)∧a.cell? ⟨w.heap.size,1,none⟩=some (.int .i64 o)∧a.cell? ⟨w.heap.size,2,none⟩=some (.int .i64 n)∧a.cell? ⟨w.heap.size,3,none⟩=some (.string s)∧
     a.cell? ⟨w.heap.size,4,none⟩=some (.slice a1 ns.length q1)∧a.cell? ⟨w.heap.size,5,none⟩=some (.slice a2 ks.length q2)∧a.cell? ⟨w.heap.size,6,none⟩=some (.int .i64 p))
   (first | exact gQ (by assumption) bb | exact gQ NEW.out (Below.refl _ _).drew | exact gQ (by assumption) (Below.refl _ _).drew)
   (first
    | (go_at_call 60;refine (lU B _ k o n s ns a1 q1 a2 ks.length q2 p (mI (by assumption)) (aA (mJ (by assumption)))).mono ?_;rintro e wx ⟨x1,y1,z1,x2,z2,rfl,hst,bb⟩)
    | (go_at_call 31;refine (mZ B _ k o n s ns a1 q1 a2 ks.length q2 p _ _ _ _ _ (mI (by assumption)) (mJ (by assumption)) hst.out (by omega)).mono ?_;rintro e wx ⟨he,bb⟩;rw [HB.out] at he;subst he))
  rename_i hz;have Z:=aA hz.1.1;clear hz;go_wp2_with fail;go_ret;exact⟨by rw [H.out];rfl,Z.out⟩
 | true=>
  have HB:=aA hbb;clear hbb;go_enter Tryz.func86,Tryz.ntmps86;go_wp2_with fail;go_region_held3 (fun a=>(Below w.heap.size w a∧mL w.heap.size k o n s (.slice a1 ns.length q1) (.slice a2 ks.length q2) p a∧Ok B a∧cA B (.slice a1 ns.length q1) ns a∧dA B a (.slice a2 ks.length q2) ks)∧a.cell? ⟨w.heap.size,0,none⟩=some (.int .i64 k)∧a.cell? ⟨w.heap.size,1,none⟩=some (.int .i64 o)∧a.cell? ⟨w.heap.size,2,none⟩=some (.int .i64 n)∧a.cell? ⟨w.heap.size,3,none⟩=some (.string s)∧
     a.cell? ⟨w.heap.size,4,none⟩=some (.slice a1 ns.length q1)∧a.cell? ⟨w.heap.size,5,none⟩=some (.slice a2 ks.length q2)∧a.cell? ⟨w.heap.size,6,none⟩=some (.int .i64 p))
   (first | exact gQ (by assumption) bb | exact gQ NEW.out (Below.refl _ _).drew | exact gQ (by assumption) (Below.refl _ _).drew)
   (first
    | (go_at_call 60;refine (lU B _ k o n s ns a1 q1 a2 ks.length q2 p (mI (by assumption)) (aA (mJ (by assumption)))).mono ?_;rintro e wx ⟨x1,y1,z1,x2,z2,rfl,hst,bb⟩)
    | (go_at_call 31;refine (mZ B _ k o n s ns a1 q1 a2 ks.length q2 p _ _ _ _ _ (mI (by assumption)) (mJ (by assumption)) hst.out (by omega)).mono ?_;rintro e wx ⟨he,bb⟩;rw [HB.out] at he;subst he))
  rename_i hz;obtain⟨⟨zb,zx,zo,zs,zk⟩,c0,c1,c2,c3,c4,c5,c6⟩:=hz;have Z:=aA zb;have ZX:=aA zx;have ZO:=aA zo;have ZS:=aA zs;have ZK:=aA zk;clear zb zx zo zs zk NEW;by_cases hk21:k=21
  ·subst hk21;have H:=aA (show rightN (.mk 21 o n s ns ks p) 2=(properB s&&(decide (ks.length=1)&&(!ks.any fun x=>!rightN x 1))) by rw [Jh o n s ns ks p,HB.out,Bool.true_and]);go_wp2_with fail;refine (nE s _).mono ?_;rintro e wz ⟨rfl,rfl⟩;generalize properB s=nb at *
   cases nb
   ·go_wp2_with fail;go_ret;exact⟨by rw [H.out];rfl,Z.out⟩
   ·go_wp2_with fail;refine (cK B _ _ ks 1 ZO ZK SK.out (by omega) IE.out).mono ?_;rintro e wz ⟨rfl,bz⟩;have ZZ:=aA (aH Z.out (Nat.le_refl _) bz);clear bz;go_wp2_with fail;go_ret;exact⟨by rw [H.out];rfl,ZZ.out⟩
  by_cases hk22:k=22
  ·subst hk22;have H:=aA (show rightN (.mk 22 o n s ns ks p) 2=(properB s&&(decide (ks.length=1)&&(!ks.any fun x=>!rightN x 1))) by rw [Ji o n s ns ks p,HB.out,Bool.true_and]);go_wp2_with fail;refine (nE s _).mono ?_;rintro e wz ⟨rfl,rfl⟩;generalize properB s=nb at *
   cases nb
   ·go_wp2_with fail;go_ret;exact⟨by rw [H.out];rfl,Z.out⟩
   ·go_wp2_with fail;refine (cK B _ _ ks 1 ZO ZK SK.out (by omega) IE.out).mono ?_;rintro e wz ⟨rfl,bz⟩;have ZZ:=aA (aH Z.out (Nat.le_refl _) bz);clear bz;go_wp2_with fail;go_ret;exact⟨by rw [H.out];rfl,ZZ.out⟩
  by_cases hk23:k=23
  ·subst hk23;have H:=aA (show rightN (.mk 23 o n s ns ks p) 2=(dH s&&(decide (ks.length=2)&&(!ks.any fun x=>!rightN x 1))) by rw [Jj o n s ns ks p,HB.out,Bool.true_and]);go_wp2_with fail;refine (iP s _).mono ?_;rintro e wz ⟨rfl,rfl⟩;have HP:=aA (show dH s=nameB s.data.toList from rfl);rw [HP.out] at H;clear HP;generalize nameB s.data.toList=nb at *
   cases nb
   ·go_wp2_with fail;go_ret;exact⟨by rw [H.out];rfl,Z.out⟩
   ·go_wp2_with fail;refine (cK B _ _ ks 2 ZO ZK SK.out (by omega) IE.out).mono ?_;rintro e wz ⟨rfl,bz⟩;have ZZ:=aA (aH Z.out (Nat.le_refl _) bz);clear bz;go_wp2_with fail;go_ret;exact⟨by rw [H.out];rfl,ZZ.out⟩
  by_cases hk24:k=24
  ·subst hk24;have H:=aA (show rightN (.mk 24 o n s ns ks p) 2=(decide (ks.length=3)&&(!ks.any fun x=>!rightN x 1)) by rw [Jk o n s ns ks p,HB.out,Bool.true_and]);go_wp2_with fail;refine (cK B _ _ ks 3 ZO ZK SK.out (by omega) IE.out).mono ?_;rintro e wz ⟨rfl,bz⟩;have ZZ:=aA (aH Z.out (Nat.le_refl _) bz);clear bz;go_wp2_with fail;go_ret;exact⟨by rw [H.out];rfl,ZZ.out⟩
  by_cases hk25:k=25
  ·subst hk25;have H:=aA (show rightN (.mk 25 o n s ns ks p) 2=(dH s&&(decide (ks.length=1)&&(!ks.any fun x=>!rightN x 1))) by rw [Jl o n s ns ks p,HB.out,Bool.true_and]);go_wp2_with fail;refine (iP s _).mono ?_;rintro e wz ⟨rfl,rfl⟩;have HP:=aA (show dH s=nameB s.data.toList from rfl);rw [HP.out] at H;clear HP;generalize nameB s.data.toList=nb at *
   cases nb
   ·go_wp2_with fail;go_ret;exact⟨by rw [H.out];rfl,Z.out⟩
   ·go_wp2_with fail;refine (cK B _ _ ks 1 ZO ZK SK.out (by omega) IE.out).mono ?_;rintro e wz ⟨rfl,bz⟩;have ZZ:=aA (aH Z.out (Nat.le_refl _) bz);clear bz;go_wp2_with fail;go_ret;exact⟨by rw [H.out];rfl,ZZ.out⟩
  by_cases hk26:k=26
  ·subst hk26;have H:=aA (show rightN (.mk 26 o n s ns ks p) 2=(decide (ks.length=2)&&(!ks.any fun x=>!rightN x 1)) by rw [Jm o n s ns ks p,HB.out,Bool.true_and]);go_wp2_with fail;refine (cK B _ _ ks 2 ZO ZK SK.out (by omega) IE.out).mono ?_;rintro e wz ⟨rfl,bz⟩;have ZZ:=aA (aH Z.out (Nat.le_refl _) bz);clear bz;go_wp2_with fail;go_ret;exact⟨by rw [H.out];rfl,ZZ.out⟩
  by_cases hk27:k=27
  ·subst hk27;have H:=aA (show rightN (.mk 27 o n s ns ks p) 2=(decide (ks.length=1)&&(!ks.any fun x=>!rightN x 1)) by rw [Jn o n s ns ks p,HB.out,Bool.true_and]);go_wp2_with fail;refine (cK B _ _ ks 1 ZO ZK SK.out (by omega) IE.out).mono ?_;rintro e wz ⟨rfl,bz⟩;have ZZ:=aA (aH Z.out (Nat.le_refl _) bz);clear bz;go_wp2_with fail;go_ret;exact⟨by rw [H.out];rfl,ZZ.out⟩
  by_cases hk28:k=28
  ·subst hk28;by_cases hl:ks.length=3
   ·obtain⟨u,v,t,rfl⟩:=tW hl;have H:=aA (show rightN (.mk 28 o n s ns [u,v,t] p) 2=(rightN u 1&&(rightN v 3&&rightN t 3)) by rw [Jr,show fP 28 o n s ns 3=true from HB.out,Bool.true_and]);have hcu:bH u≤1000000∧bH v≤1000000∧bH t≤1000000:=by simp only [bU] at hc;omega
    obtain⟨hcu,hcv,hct⟩:=hcu;clear hl hc hlen HB;simp only [List.length_cons,List.length_nil,Nat.zero_add,Nat.reduceAdd] at *
    obtain⟨b,off,rfl,hbB,hat⟩:=gJ ZK.out (by simp);obtain⟨nu,ku,hnu,hiu⟩:=fZ hat 0 (by simp);simp only [List.getElem_cons_zero,Nat.zero_mul,Nat.add_zero] at hnu hiu;obtain⟨gu0,gu1,gu2,gu3,rfl,rfl⟩:=bY hiu;obtain⟨mu0,mu1,mu2,mu3,mu4,mu5,mu6⟩:=hnu;have Nu:=aA hiu;have HAT0:=aA hat;clear hiu hat;go_wp2_with fail;refine (IE.out u (by simp) B _ _ _ ZO Nu (SK.out u (by simp)) (by omega)).mono ?_;rintro e wz0 ⟨rfl,bz0⟩;have Z0:=aA (aH Z.out (Nat.le_refl _) bz0);have bq:=bz0.mono ZO.out.1;have X0:=aA (nR ZX.out bz0);have c5_0:=(aJ X0.out).2.2.2.2.2.1;have O0:=aA (aR ZO.out bq);have hat0:=gC bq hbB _ _ HAT0.out;clear bz0 bq Nu HAT0;generalize rightN u 1=r0 at *
    cases r0
    ·go_wp2_with fail;go_ret;exact⟨by rw [H.out];rfl,Z0.out⟩
    ·clear c5;obtain⟨nv,kv,hnv,hiv⟩:=fZ hat0 1 (by simp);simp only [List.getElem_cons_succ,List.getElem_cons_zero,Nat.one_mul] at hnv hiv;obtain⟨gv0,gv1,gv2,gv3,rfl,rfl⟩:=bY hiv;obtain⟨mv0,mv1,mv2,mv3,mv4,mv5,mv6⟩:=hnv;have Nv:=aA hiv;have HAT1:=aA hat0;clear hiv hat0;go_wp2_with fail;refine (IB.out v (by simp) B _ _ _ O0 Nv (SK.out v (by simp)) (by omega)).mono ?_;rintro e wz1 ⟨rfl,bz1⟩;have Z1:=aA (aH Z0.out (Nat.le_refl _) bz1);have bq:=bz1.mono O0.out.1;have X1:=aA (nR X0.out bz1);have c5_1:=(aJ X1.out).2.2.2.2.2.1;have O1:=aA (aR O0.out bq);have hat1:=gC bq hbB _ _ HAT1.out;clear bz1 bq Nv HAT1;generalize rightN v 3=r1 at *
     cases r1
     ·go_wp2_with fail;go_ret;exact⟨by rw [H.out];rfl,Z1.out⟩
     ·clear c5_0;obtain⟨nt,kt,hnt,hit⟩:=fZ hat1 2 (by simp);simp only [List.getElem_cons_succ,List.getElem_cons_zero,Nat.reduceMul] at hnt hit;obtain⟨gt0,gt1,gt2,gt3,rfl,rfl⟩:=bY hit;obtain⟨mt0,mt1,mt2,mt3,mt4,mt5,mt6⟩:=hnt;have Nt:=aA hit;have HAT2:=aA hat1;clear hit hat1;go_wp2_with fail;refine (IB.out t (by simp) B _ _ _ O1 Nt (SK.out t (by simp)) (by omega)).mono ?_;rintro e wz2 ⟨rfl,bz2⟩;have Z2:=aA (aH Z1.out (Nat.le_refl _) bz2);have bq:=bz2.mono O1.out.1;have X2:=aA (nR X1.out bz2);have c5_2:=(aJ X2.out).2.2.2.2.2.1;have O2:=aA (aR O1.out bq);have hat2:=gC bq hbB _ _ HAT2.out;clear bz2 bq Nt HAT2;generalize rightN t 3=r2 at *
      cases r2
      ·go_wp2_with fail;go_ret;exact⟨by rw [H.out];rfl,Z2.out⟩
      ·clear hat2;go_wp2_with fail;go_ret;exact⟨by rw [H.out];rfl,Z2.out⟩
   ·have H:=aA (show rightN (.mk 28 o n s ns ks p) 2=false from AM hl);have e0:((ks.length:Int)==3)=false:=beq_eq_false_iff_ne.2 (by omega);clear hl;go_wp2_with fail;go_ret;exact⟨by rw [H.out];rfl,Z.out⟩
  by_cases hk30:k=30
  ·subst hk30;by_cases hl:ks.length=2
   ·obtain⟨u,v,rfl⟩:=nK hl;have H:=aA (show rightN (.mk 30 o n s ns [u,v] p) 2=(rightN u 1&&rightN v 3) by rw [Js,show fP 30 o n s ns 2=true from HB.out,Bool.true_and]);have hcu:bH u≤1000000∧bH v≤1000000:=by simp only [bU] at hc;omega
    obtain⟨hcu,hcv⟩:=hcu;clear hl hc hlen HB;simp only [List.length_cons,List.length_nil,Nat.zero_add,Nat.reduceAdd] at *
    obtain⟨b,off,rfl,hbB,hat⟩:=gJ ZK.out (by simp);obtain⟨nu,ku,hnu,hiu⟩:=fZ hat 0 (by simp);simp only [List.getElem_cons_zero,Nat.zero_mul,Nat.add_zero] at hnu hiu;obtain⟨gu0,gu1,gu2,gu3,rfl,rfl⟩:=bY hiu;obtain⟨mu0,mu1,mu2,mu3,mu4,mu5,mu6⟩:=hnu;have Nu:=aA hiu;have HAT0:=aA hat;clear hiu hat;go_wp2_with fail;refine (IE.out u (by simp) B _ _ _ ZO Nu (SK.out u (by simp)) (by omega)).mono ?_;rintro e wz0 ⟨rfl,bz0⟩;have Z0:=aA (aH Z.out (Nat.le_refl _) bz0);have bq:=bz0.mono ZO.out.1;have X0:=aA (nR ZX.out bz0);have c5_0:=(aJ X0.out).2.2.2.2.2.1;have O0:=aA (aR ZO.out bq);have hat0:=gC bq hbB _ _ HAT0.out;clear bz0 bq Nu HAT0;generalize rightN u 1=r0 at *
    cases r0
    ·go_wp2_with fail;go_ret;exact⟨by rw [H.out];rfl,Z0.out⟩
    ·clear c5;obtain⟨nv,kv,hnv,hiv⟩:=fZ hat0 1 (by simp);simp only [List.getElem_cons_succ,List.getElem_cons_zero,Nat.one_mul] at hnv hiv;obtain⟨gv0,gv1,gv2,gv3,rfl,rfl⟩:=bY hiv;obtain⟨mv0,mv1,mv2,mv3,mv4,mv5,mv6⟩:=hnv;have Nv:=aA hiv;have HAT1:=aA hat0;clear hiv hat0;go_wp2_with fail;refine (IB.out v (by simp) B _ _ _ O0 Nv (SK.out v (by simp)) (by omega)).mono ?_;rintro e wz1 ⟨rfl,bz1⟩;have Z1:=aA (aH Z0.out (Nat.le_refl _) bz1);have bq:=bz1.mono O0.out.1;have X1:=aA (nR X0.out bz1);have c5_1:=(aJ X1.out).2.2.2.2.2.1;have O1:=aA (aR O0.out bq);have hat1:=gC bq hbB _ _ HAT1.out;clear bz1 bq Nv HAT1;generalize rightN v 3=r1 at *
     cases r1
     ·go_wp2_with fail;go_ret;exact⟨by rw [H.out];rfl,Z1.out⟩
     ·clear hat1;go_wp2_with fail;go_ret;exact⟨by rw [H.out];rfl,Z1.out⟩
   ·have H:=aA (show rightN (.mk 30 o n s ns ks p) 2=false from AN hl);have e0:((ks.length:Int)==2)=false:=beq_eq_false_iff_ne.2 (by omega);clear hl;go_wp2_with fail;go_ret;exact⟨by rw [H.out];rfl,Z.out⟩
  by_cases hk31:k=31
  ·subst hk31;have H:=aA (show rightN (.mk 31 o n s ns ks p) 2=(decide (ks.length=1)&&(!ks.any fun x=>!rightN x 1)) by rw [Jo o n s ns ks p,HB.out,Bool.true_and]);go_wp2_with fail;refine (cK B _ _ ks 1 ZO ZK SK.out (by omega) IE.out).mono ?_;rintro e wz ⟨rfl,bz⟩;have ZZ:=aA (aH Z.out (Nat.le_refl _) bz);clear bz;go_wp2_with fail;go_ret;exact⟨by rw [H.out];rfl,ZZ.out⟩
  by_cases hk32:k=32
  ·subst hk32;have H:=aA (show rightN (.mk 32 o n s ns ks p) 2=(decide (ks.length=1)&&(!ks.any fun x=>!rightN x 1)) by rw [Jp o n s ns ks p,HB.out,Bool.true_and]);go_wp2_with fail;refine (cK B _ _ ks 1 ZO ZK SK.out (by omega) IE.out).mono ?_;rintro e wz ⟨rfl,bz⟩;have ZZ:=aA (aH Z.out (Nat.le_refl _) bz);clear bz;go_wp2_with fail;go_ret;exact⟨by rw [H.out];rfl,ZZ.out⟩
  have H:=aA (show rightN (.mk k o n s ns ks p) 2=false by rw [aQ,DD (by omega)];rfl);have e21:(k==21)=false:=beq_eq_false_iff_ne.2 hk21;have e22:(k==22)=false:=beq_eq_false_iff_ne.2 hk22;have e23:(k==23)=false:=beq_eq_false_iff_ne.2 hk23;have e24:(k==24)=false:=beq_eq_false_iff_ne.2 hk24;have e25:(k==25)=false:=beq_eq_false_iff_ne.2 hk25;have e26:(k==26)=false:=beq_eq_false_iff_ne.2 hk26;have e27:(k==27)=false:=beq_eq_false_iff_ne.2 hk27;have e28:(k==28)=false:=beq_eq_false_iff_ne.2 hk28;have e30:(k==30)=false:=beq_eq_false_iff_ne.2 hk30;have e31:(k==31)=false:=beq_eq_false_iff_ne.2 hk31;have e32:(k==32)=false:=beq_eq_false_iff_ne.2 hk32;clear hk21 hk22 hk23 hk24 hk25 hk26 hk27 hk28 hk30 hk31 hk32;go_wp2_with fail;go_ret;exact⟨by rw [H.out];rfl,Z.out⟩
theorem EV (x:Nd):qX x∧sR x∧yS x:=by
 refine Nd.ind (P:=fun x=>qX x∧sR x∧yS x) ?_ x;intro k o n s ns ks p ih;exact⟨Lm k o n s ns ks p (fun x hx=>(ih x hx).1) (fun x hx=>(ih x hx).2.1),Ln k o n s ns ks p (fun x hx=>(ih x hx).1) (fun x hx=>(ih x hx).2.2),Hw k o n s ns ks p (fun x hx=>(ih x hx).2.1)⟩
theorem qY (x:Nd) (B:Nat) (w:World) (nv kv:Value) (hO:Hid (Ok B w)) (hN:Hid (lB B w x nv kv)) (hs:dO x=true) (hc:bH x≤1000000) :
  Calls Tryz.prog 18 #[.agg #[.int .i64 x.kind,.int .i64 x.op,.int .i64 x.num,.string x.str,nv,kv,.int .i64 x.pl]] w fun e w'=>
   e=.returned (.int .i64 (checkN x))∧Below w.heap.size w w':=by
 obtain⟨a1,q1,a2,q2,rfl,rfl⟩:=bY hN.out;have hal:=(Below.refl w.heap.size w).alloc (Nat.le_refl _) (.cells #[.int .i64 x.kind,.int .i64 x.op,.int .i64 x.num,.string x.str,.slice a1 x.names.length q1,.slice a2 x.kids.length q2,.int .i64 x.pl] 26);have hB:=hO.out.1;have AL:=aA hal;have N:=aA (iN (hal.mono hB) _ _ _ hN.out);have O:=aA (aR hO.out (hal.mono hB));have X:=aA (cH w x.kind x.op x.num x.str (.slice a1 x.names.length q1) (.slice a2 x.kids.length q2) x.pl);have HS:=aA hs;have H:=aA (show checkN x=if decide (12<fF x) then 13 else if rightN x 3 then 0 else 2 by unfold checkN;simp only [decide_eq_true_eq]);clear hal hN hO hs;go_enter Tryz.func18,Tryz.ntmps18;go_wp2_with fail;refine (Dl x B _ _ _ 12 (by simp;omega) N hc (by omega)).mono ?_;rintro e w1 ⟨rfl,b1⟩;have B1:=aA (aH AL.out (by simp) b1);have bq:Below B _ w1:=b1.mono (by simp;omega);have N1:=aA (iN bq _ _ _ N.out);have O1:=aA (aR O.out bq);obtain⟨c0,c1,c2,c3,c4,c5,c6⟩:=aJ (nR X.out b1);clear b1 bq N O X AL;generalize decide (12<fF x)=hb at *
 cases hb
 ·go_wp2_with fail;refine ((EV x).2.2 B _ _ _ O1 N1 HS.out hc).mono ?_;rintro e w2 ⟨rfl,b2⟩;have B2:=aA (aH B1.out (Nat.le_refl _) b2);clear b2 B1 N1 O1;generalize rightN x 3=rb at *
  cases rb
  ·go_wp2_with fail;go_ret;exact⟨by rw [H.out];rfl,B2.out⟩
  ·go_wp2_with fail;go_ret;exact⟨by rw [H.out];rfl,B2.out⟩
 ·go_wp2_with fail;go_ret;exact⟨by rw [H.out];rfl,B1.out⟩
def mx (t:Tx):Nat:=max t.e.length (max t.s.length t.b.length)
def nW (l:List Tx):Nat:=(l.map fun t=>mx t+4).sum
theorem Dt (t:Tx):t.e.length≤mx t:=by unfold mx;omega
theorem QF (t:Tx):t.s.length≤mx t:=by unfold mx;omega
theorem QG (t:Tx):t.b.length≤mx t:=by unfold mx;omega
theorem kR (t:Tx) (l:List Tx):nW (t::l)=mx t+4+nW l:=by simp [nW]
theorem AU:∀ l:List Tx,(nD l).length≤nW l
 | []=>by simp [nD]
 | t::l=>by
  have:=AU l;have:=Dt t;rw [kR];simp only [nD,List.flatMap_cons,List.length_append,List.length_cons] at *
  omega
theorem uR:∀ l:List Tx,(fI l).length≤nW l
 | []=>by simp [fI]
 | t::l=>by
  have:=uR l;have:=QF t;rw [kR];simp only [fI,List.flatMap_cons,List.length_append,List.length_cons] at *
  omega
theorem NL (l:List Tx):(jJ l).length≤nW l:=by
 cases l with
 | nil=>simp [jJ]
 | cons t l=>
  have:=AU l;have:=Dt t;rw [kR,jJ,List.length_append];omega
theorem EY (l:List Tx):(iT l).length≤nW l+2:=by
 have:=NL l;unfold iT;simp;omega
theorem Co (l:List Tx):(blockT l).length≤nW l+3:=by
 have:=uR l;unfold blockT;split<;>simp<;>omega
theorem EZ (l:List Tx):(dS l).length≤nW l:=by
 cases l with
 | nil=>simp [dS]
 | cons t l=>
  have:=uR l;have:=QF t;rw [kR,dS,List.length_append];omega
theorem NM (l:List Tx):mx (rG l)+mx (Bl l)+mx (MP l)≤nW l:=by
 have hn:mx Tx.none=0:=rfl;match l with
 | []=>simp [rG,Bl,MP,hn]
 | [x]=>simp [rG,Bl,MP,hn,nW]<;>omega
 | [x,y]=>simp [rG,Bl,MP,hn,nW]<;>omega
 | x::y::z::r=>simp [rG,Bl,MP,nW]<;>omega
theorem NO (l:List Tx):mx (rG l)+nW l.tail≤nW l:=by
 have hn:mx Tx.none=0:=rfl;cases l with
 | nil=>simp [rG,hn,nW]
 | cons x r=>rw [kR];simp [rG]<;>omega
theorem jV (x:Tx) (r:Int):(cB x r).length≤mx x+2:=by
 have:=Dt x;unfold cB;split
 ·omega
 ·simp;omega
theorem AV:∀ (ns:List ByteArray) (l:List Tx),(∀ x∈ns,x.size≤100)→(gZ ns l).length≤nW l+102*ns.length
 | [],l,_=>by simp [gZ]
 | s::ns,[],_=>by simp [gZ]
 | s::ns,t::l,h=>by
  have:=AV ns l (fun x hx=>h x (by simp [hx]));have h1:=h s (by simp);have:=Dt t;have:=cF s;rw [kR];simp only [gZ,mV,List.length_append,List.length_cons];omega
theorem Pn (ns:List ByteArray) (l:List Tx) (h:∀ x∈ns,x.size≤100) (hn:ns.length≤60):(oZ ns l).length≤nW l+7000:=by
 cases ns with
 | nil=>simp [oZ]
 | cons s ns=>
  cases l with
  | nil=>simp [oZ]
  | cons t l=>
   have:=AV ns l (fun x hx=>h x (by simp [hx]));have h1:=h s (by simp);have:=Dt t;have:=cF s;rw [kR];simp only [List.length_cons] at hn;simp only [oZ,mV,List.length_append,List.length_cons,List.length_nil];omega
theorem NP (ns:List ByteArray) (h:∀ x∈ns,x.size≤100) (hn:ns.length≤60):(nN ns).length≤7000:=by
 have key:∀ ns:List ByteArray,(∀ x∈ns,x.size≤100)→(ns.flatMap fun x=>44::32::x.data.toList).length≤102*ns.length:=by
  intro ns;induction ns with
  | nil=>intro _;simp
  | cons s ns ih=>
   intro h;have:=ih (fun x hx=>h x (by simp [hx]));have h1:=h s (by simp);have:=cF s;simp only [List.flatMap_cons,List.length_append,List.length_cons] at *
   omega
 cases ns with
 | nil=>simp [nN]
 | cons s ns=>
  have:=key ns (fun x hx=>h x (by simp [hx]));have h1:=h s (by simp);have:=cF s;simp only [List.length_cons] at hn;simp only [nN,List.length_append];omega
theorem NQ (k n:Int) (s:ByteArray) (h:s.size≤600):(iJ k n s).length≤2500:=by
 have h1:=Dv n;have h2:=Ba s.data.toList;have h3:=cF s;unfold iJ;split
 ·simp
 split
 ·simp
 split
 ·split<;>simp
 split
 ·omega
 split<;>omega
theorem Lv (o:Int):(signT o).length≤2:=by
 unfold signT;split
 ·simp
 ·rw [List.getD_eq_getElem?_getD];cases h:tsgnL[o.toNat]? with
  | none=>simp
  | some x=>
   have hx:=List.mem_of_getElem? h;have:∀ y∈tsgnL,y.length≤2:=by decide
   simpa using this x hx
theorem If (o:Int):(builtT o).1.length≤100:=by
 unfold builtT;split
 ·simp
 ·rw [List.getD_eq_getElem?_getD];cases h:builtL[o.toNat]? with
  | none=>simp
  | some x=>
   have hx:=List.mem_of_getElem? h;have:∀ y∈builtL,y.1.length≤100:=by decide
   simpa using this x hx
theorem NR (k o n:Int) (s:ByteArray) (ns:List ByteArray) (l:List Tx) (hs:s.size≤600) (h:∀ x∈ns,x.size≤100) (hn:ns.length≤60):(exprT k o n s ns l).length≤nW l+9000:=by
 have a:=NM l;have t:=NO l;have ob:=Pn ns l h hn;have jo:=NP ns h hn;have bl:=Co l;have ag:=EY l;have ag2:=EY l.tail;have wd:=NQ k n s hs;have sg:=Lv o;have bt:=If o;have sz:=cF s;have t7:=jV (rG l) 7;have t8:=jV (rG l) 8;have e1:=Dt (Bl l);unfold exprT;split
 ·omega
 split
 ·simp only [List.length_append,List.length_cons,List.length_nil];omega
 split
 ·simp only [List.length_cons];omega
 split
 ·have:=jV (rG l) (rankT 10 o);have:=jV (Bl l) (rankT 10 o+1);simp only [fH,List.length_append,List.length_cons];omega
 split
 ·have:=jV (rG l) 2;have:=jV (Bl l) (2+1);simp only [fH,List.length_append,List.length_cons,List.length_nil];omega
 split
 ·have:=jV (rG l) 1;have:=jV (Bl l) (1+1);simp only [fH,List.length_append,List.length_cons,List.length_nil];omega
 split
 ·simp only [lD,List.length_append,List.length_cons];omega
 split
 ·simp only [gT,List.length_append,List.length_cons,List.length_nil];omega
 split
 ·have:=jV (rG l) (if (rG l).kind=13 then 9 else 8);simp only [List.length_append];omega
 split
 ·simp only [lD,List.length_append,List.length_cons];omega
 split
 ·simp only [List.length_append];omega
 ·omega
theorem NS (k:Int) (s:ByteArray) (l:List Tx) (hs:s.size≤600):(stmtT k s l).length≤nW l+9000:=by
 have a:=NM l;have sz:=cF s;have t8:=jV (rG l) 8;have e0:=Dt (rG l);have e1:=Dt (Bl l);have e2:=Dt (MP l);have b1:=QG (Bl l);have b2:=QG (MP l);have sh:(At k s l).length≤nW l+8000:=by
  unfold At;split
  ·simp only [cZ,List.length_append,List.length_cons,List.length_nil];omega
  split
  ·simp only [cZ,List.length_append,List.length_cons];omega
  split
  ·simp only [lD,cZ,List.length_append,List.length_cons];omega
  split
  ·simp only [gT,cZ,List.length_append,List.length_cons,List.length_nil];omega
  split
  ·simp only [lD,List.length_append,List.length_cons,List.length_nil];omega
  split
  ·simp only [gT,List.length_append,List.length_cons,List.length_nil];omega
  split
  ·simp only [List.length_append,List.length_cons,List.length_nil];omega
  split
  ·simp only [List.length_append,List.length_cons,List.length_nil];omega
  split
  ·omega
  ·simp
 unfold stmtT;split
 ·split<;>simp only [dN,List.length_append,List.length_cons,List.length_nil]<;>omega
 split
 ·simp only [dN,List.length_append,List.length_cons,List.length_nil];omega
 ·simp only [List.length_append,List.length_cons,List.length_nil];omega
theorem NT (x:Nd):dO x=true→mx (textN x)+4≤10010*bH x:=by
 refine Nd.ind (P:=fun x=>dO x=true→mx (textN x)+4≤10010*bH x) ?_ x;intro k o n s ns ks p ih hs;obtain⟨h600,h60,h100,hsk⟩:=lC hs;have key:nW (ks.map textN)≤10010*bU ks:=by
  clear hs;induction ks with
  | nil=>simp [nW]
  | cons y r ih2=>
   have h1:=ih y (by simp) (hsk y (by simp));have h2:=ih2 (fun z hz=>ih z (by simp [hz])) (fun z hz=>hsk z (by simp [hz]));rw [List.map_cons,kR,bU];omega
 have he:=NR k o n s ns (ks.map textN) h600 h100 h60;have hst:=NS k s (ks.map textN) h600;have hb:=Co (ks.map textN);rw [mC,bH];unfold mx;simp only;omega
theorem Lw (x:Nd) (hs:dO x=true) (hc:bH x≤1000):(lL x).length≤100000000:=by
 obtain⟨k,o,n,s,ns,ks,p⟩:=x;obtain⟨_,_,_,hsk⟩:=lC hs;have key:nW (ks.map textN)≤10010*bU ks:=by
  clear hs hc;induction ks with
  | nil=>simp [nW]
  | cons y r ih2=>
   have h1:=NT y (hsk y (by simp));have h2:=ih2 (fun z hz=>hsk z (by simp [hz]));rw [List.map_cons,kR,bU];omega
 have:=EZ (ks.map textN);simp only [bH] at hc;unfold lL;simp only [Nd.kids];omega
theorem Lx {B B':Nat} {w:World} {v:Value} {l:List ByteArray} (hB:B≤B') (h:cA B v l w):cA B' v l w:=by
 rcases h with h | ⟨b,off,cap,h1,h2,h3,h4⟩
 ·exact .inl h
 ·exact .inr ⟨b,off,cap,h1,Nat.lt_of_lt_of_le h2 hB,h3,h4⟩
mutual
theorem Po {B B':Nat} {w:World} (hB:B≤B'):∀ (t:Nd) (nv kv:Value),lB B w t nv kv→lB B' w t nv kv
 | .mk _ _ _ _ ns ks _,nv,kv,h=>by
  rw [lB] at h ⊢;obtain⟨h1,h2⟩:=h;refine⟨Lx hB h1,?_⟩;rcases h2 with h2 | ⟨b,off,cap,e,hb,h3,h4⟩
  ·exact .inl h2
  ·exact .inr ⟨b,off,cap,e,Nat.lt_of_lt_of_le hb hB,AX hB ks off h3,h4⟩
theorem AX {B B':Nat} {w:World} {b:Nat} (hB:B≤B'):∀ (ks:List Nd) (off:Nat),jZ B w b ks off→jZ B' w b ks off
 | [],_,_=>by rw [jZ];trivial
 | .mk k op n s ns ks p::r,off,h=>by
  rw [jZ] at h ⊢;obtain⟨⟨nv,kv,h1,h2⟩,h3⟩:=h;exact⟨⟨nv,kv,h1,Po hB _ _ _ h2⟩,AX hB r _ h3⟩
end
theorem Ly {B B':Nat} {w:World} {kv:Value} {ks:List Nd} (hB:B≤B') (h:dA B w kv ks):dA B' w kv ks:=by
 rcases h with h2 | ⟨b,off,cap,e,hb,h3,h4⟩
 ·exact .inl h2
 ·exact .inr ⟨b,off,cap,e,Nat.lt_of_lt_of_le hb hB,AX hB ks off h3,h4⟩
theorem QH {B B':Nat} {w:World} (hB:B≤B') (hw:B'≤w.heap.size) (h:Ok B w):Ok B' w:=⟨hw,Nat.lt_of_lt_of_le h.2.1 hB,h.2.2⟩
end Go.Proofs.YtdnnmjhfidimcaaGreatDoor
