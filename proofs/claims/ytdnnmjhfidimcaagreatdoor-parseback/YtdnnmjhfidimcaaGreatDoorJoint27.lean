/- Unlike programs have unlike texts. Pieces that stand well beside each other come back as their tokens. Whether a node is right as a statement. Whether a tree may be a program. A tree that lies below a place lies below any later one. -/
import Derived.Test.YtdnnmjhfidimcaaGreatDoorPsBack2
import Derived.Test.YtdnnmjhfidimcaaGreatDoorJoint14
import Derived.Test.YtdnnmjhfidimcaaGreatDoorJoint26
import Derived.Test.YtdnnmjhfidimcaaGreatDoorJoint4
namespace Go.Proofs.YtdnnmjhfidimcaaGreatDoor
set_option maxHeartbeats 6400000
set_option maxRecDepth 100000
open Go.RowKit
theorem Dl {a b:ByteArray} (h:a.data.toList=b.data.toList):a=b:=by
 apply ByteArray.ext;exact Array.toList_inj.1 h
theorem OO {a b:List ByteArray} (h:namesB a b=true):a=b:=by
 unfold namesB at h;rw [beq_iff_eq] at h;have inj:∀ x y:ByteArray,x.data.toList=y.data.toList→x=y:=fun _ _=>Dl
 induction a generalizing b with
 | nil=>cases b with
  | nil=>rfl
  | cons=>cases h
 | cons x r ih=>
  cases b with
  | nil=>cases h
  | cons y q=>
   simp only [List.map_cons,List.cons.injEq] at h;rw [inj _ _ h.1,ih h.2]
mutual
theorem OP:∀ (a b:Nd),sameN a b=true↔zN a=zN b
 | .mk k o n s ns ks p,.mk k' o' n' s' ns' ks' p'=>by
  rw [sameN,zN,zN];simp only [Bool.and_eq_true,beq_iff_eq,Nd.mk.injEq,and_true];constructor
  ·rintro⟨h1,h2,h3,h4,h5,h6⟩;exact⟨h1,h2,h3,Dl h4,OO h5,(Em ks ks').1 h6⟩
  ·rintro⟨h1,h2,h3,h4,h5,h6⟩;exact⟨h1,h2,h3,by rw [h4],by rw [h5];simp [namesB],(Em ks ks').2 h6⟩
theorem Em:∀ (a b:List Nd),mE a b=true↔zL a=zL b
 | [],[]=>by simp [mE,zL]
 | x::r,y::q=>by
  rw [mE,zL,zL,Bool.and_eq_true,List.cons.injEq];exact and_congr (OP x y) (Em r q)
 | [],y::q=>by simp [mE,zL]
 | x::r,[]=>by simp [mE,zL]
end
theorem Qn {a b:Tok} (h:bare a=bare b):zt a=zt b:=by
 unfold bare at h;simp only [Prod.mk.injEq] at h;unfold zt;rw [h.1,h.2.1,h.2.2]
theorem FU:∀ {a b:List Tok},a.map bare=b.map bare→a.map zt=b.map zt
 | [],[],_=>rfl
 | x::r,y::q,h=>by
  simp only [List.map_cons,List.cons.injEq] at h ⊢;exact⟨Qn h.1,FU h.2⟩
 | [],y::q,h=>by cases h
 | x::r,[],h=>by cases h
theorem Ev.one {α:Type} {g:Nat→α} {a b:α} (h1:Ev g a) (h2:Ev g b):a=b:=by
 obtain⟨f1,h1⟩:=h1;obtain⟨f2,h2⟩:=h2;rw [← h1 (max f1 f2) (by omega),h2 (max f1 f2) (by omega)]
theorem Kj (f:Nat) (l:List Tok):(rJ f true l).z=rJ f true (l.map zt):=by
 unfold rJ;refine PR.bind_z (PL.bind_z ((Sj f).stmts [] l) fun _ ks l=>oW (zK _ _)) fun e b l=>?_
 rw [Ei];exact jF rfl rfl
theorem zz (t:Nd):zN (zN t)=zN t:=by
 refine Nd.ind (P:=fun t=>zN (zN t)=zN t) ?_ t;intro k o n s ns ks p ih;have e:(ks.map zN).map zN=ks.map zN:=by rw [List.map_map];exact List.map_congr_left ih
 rw [gA,gA,e]
theorem En:∀ {l:List Pc},gV l→(aK l).length≤(laid l).length
 | [],_=>Nat.le_refl _
 | .bl::r,h=>by
  have:=En (l:=r) h;rw [bO];simp [aK];omega
 | .tk t::r,h=>by
  obtain⟨h1,h2,_,h4⟩:=h;have:=En (l:=r) h4;have h5:=List.length_pos_iff.2 (Ed h1 h2);rw [bO];simp [aK,Pc.text];omega
theorem BN:∀ l:List Pc,(kX l).length≤l.length
 | []=>Nat.le_refl _
 | .bl::r=>by have:=BN r;simp [kX];omega
 | .tk t::r=>Nat.le_refl _
theorem tY:∀ l:List Pc,kX (kX l)=kX l
 | []=>rfl
 | .bl::r=>tY r
 | .tk _::_=>rfl
theorem Kk {s:ByteArray} {l:List Pc} {k:Nat} (hd:s.data.toList.drop k=laid l) (h:gV l):s.data.toList.drop (skipTo false s k)=laid (kX l):=by
 obtain⟨h1,h2,h3⟩:=Dd l h;unfold skipTo;rw [hd,h1,← List.drop_drop,hd,h3]
theorem Kl (s:ByteArray):∀ (m:Nat) (l:List Pc) (f k:Nat) (acc:List Tok),l.length≤m→s.data.toList.drop k=laid l→gV l→kX l=l→(aK l).length<f→acc.length≤600→
  (acc.length+(aK l).length≤600→∃ out,jD s f k acc=(out,0,0)∧out.map bare=(acc++aK l).map bare++[(6,⟨#[]⟩,0)])∧(600<acc.length+(aK l).length→∃ p,jD s f k acc=([],p,5))
 | m,[],f,k,acc,_,hd,_,_,hf,ha=>by
  obtain⟨f,rfl⟩:∃ f',f=f'+1:=⟨f - 1,by simp [aK] at hf;omega⟩
  have hk:s.size≤k:=by
   have:=congrArg List.length hd;rw [List.length_drop,cB] at this;simp [laid] at this;omega
  refine⟨fun _=>⟨_,yK hk,by simp [bare,aK]⟩,fun h=>by simp [aK] at h;omega⟩
 | m,.bl::r,f,k,acc,_,_,_,hs,_,_=>by
  have:=BN r;have h2:=congrArg List.length hs;simp [kX] at h2;omega
 | 0,.tk t::r,f,k,acc,hm,_,_,_,_,_=>by simp at hm
 | m+1,.tk t::r,f,k,acc,hm,hd,hfi,hs,hf,ha=>by
  obtain⟨f,rfl⟩:∃ f',f=f'+1:=⟨f - 1,by omega⟩
  obtain⟨h1,h6,hR,hfr⟩:=hfi;rw [bO] at hd;have hd1:s.data.toList.drop k=eP t++laid r:=hd;have hk:k<s.size:=by
   rcases Nat.lt_or_ge k s.size with h | h
   ·exact h
   ·rw [fH s k h] at hd1;exact absurd (List.append_eq_nil_iff.1 hd1.symm).1 (Ed h1 h6)
  have ho:cA (s.data.toList.drop k) k=(t.put k,k+(eP t).length,0):=by rw [hd1];exact xI h1 h6 _ hR _
  have ht:(aK (.tk t::r)).length=(aK r).length+1:=rfl;by_cases h600:acc.length=600
  ·refine⟨fun h=>by omega,fun _=>⟨k,vO hk ho rfl h600⟩⟩
  ·have hd2:s.data.toList.drop (k+(eP t).length)=laid r:=by
    rw [← List.drop_drop,hd1];simp
   have hd3:=Kk hd2 hfr;have hm2:=vP (f:=f) (acc:=acc) hk ho rfl h600;simp only at hm2;have ih:=Kl s m (kX r) f _ (acc++[t.put k]) (by have:=BN r;simp at hm;omega) hd3 (vU hfr) (tY r) (by rw [pS];omega) (by simp;omega);rw [hm2];rw [pS] at ih;have hb:bare (t.put k)=bare t:=rfl;refine⟨fun h=>?_,fun h=>?_⟩
   ·obtain⟨out,e1,e2⟩:=ih.1 (by simp;omega);refine⟨out,e1,?_⟩;rw [e2];simp [hb,aK]
   ·exact ih.2 (by simp;omega)
theorem OQ (l:List Pc) (s:ByteArray) (hs:s.data.toList=laid l) (hr:gV l) :
  (2000<s.size→tokOut s=([],0,3))∧(s.size≤2000→600<(aK l).length→∃ p,tokOut s=([],p,5))∧
  (s.size≤2000→(aK l).length≤600→∃ out,tokOut s=(out,0,0)∧out.map bare=(aK l).map bare++[(6,⟨#[]⟩,0)]):=by
 have hsz:s.size=(laid l).length:=by rw [← hs,cB]
 have hge:=En hr;have hd:=Kk (s:=s) (k:=0) (by rw [List.drop_zero,hs]) hr;have h:=Kl s _ (kX l) (s.size+1) _ [] (Nat.le_refl _) hd (vU hr) (tY l) (by rw [pS];omega) (by simp);rw [pS] at h;refine⟨fun h1=>?_,fun h1 h2=>?_,fun h1 h2=>?_⟩
 ·unfold tokOut;rw [if_pos h1]
 ·obtain⟨p,hp⟩:=h.2 (by simpa using h2);exact⟨p,by unfold tokOut;rw [if_neg (by omega),hp]⟩
 ·obtain⟨out,e1,e2⟩:=h.1 (by simpa using h2);exact⟨out,by unfold tokOut;rw [if_neg (by omega),e1],by simpa using e2⟩
theorem KQ (o n:Int) (s:ByteArray) (ns:List ByteArray) (u v t:Nd) (p:Int):rightN (.mk 28 o n s ns [u,v,t] p) 2=(gB 28 o n s ns 3&&(rightN u 1&&(rightN v 3&&rightN t 3))):=by
 rw [aP,cZ];simp [cP,bP,kG,kP,cW,bU,bR,cU,bS,dF,cH,cK,cV,eV]
theorem BV {o n:Int} {s:ByteArray} {ns:List ByteArray} {ks:List Nd} {p:Int} (h:ks.length≠3):rightN (.mk 28 o n s ns ks p) 2=false:=by
 rw [aP];simp [kP,bS,h]
theorem KR (o n:Int) (s:ByteArray) (ns:List ByteArray) (u v:Nd) (p:Int):rightN (.mk 30 o n s ns [u,v] p) 2=(gB 30 o n s ns 2&&(rightN u 1&&rightN v 3)):=by
 rw [aP,cZ];simp [cP,bP,kG,kP,cW,bU,bR,cU,bS,dF,cH,cK,cV,eV]
theorem BW {o n:Int} {s:ByteArray} {ns:List ByteArray} {ks:List Nd} {p:Int} (h:ks.length≠2):rightN (.mk 30 o n s ns ks p) 2=false:=by
 rw [aP];simp [kP,bS,h]
theorem MP (k o n:Int) (s:ByteArray) (ns:List ByteArray) (ks:List Nd) (p:Int) (ihe:∀ x∈ks,sC x) (ihs:∀ x∈ks,Aw x):uC (.mk k o n s ns ks p):=by
 intro B w nv kv hO hN hsm hc;obtain⟨hs6,hns,_,hsk⟩:=lO hsm;simp only [bM] at hc;obtain⟨hs1,hk1⟩:=ndIn_mk.1 hN.out;obtain⟨a1,q1,a2,q2,rfl,rfl⟩:=cC hN.out;simp only [Nd.kind,Nd.op,Nd.num,Nd.str,Nd.pl,Nd.names,Nd.kids] at *
 have NEW:=aA (yZ (k:=k) (o:=o) (n:=n) (s:=s) (p:=p) hO.out hs1 hk1);have IE:=aA ihe;have IB:=aA ihs;have SK:=aA hsk;have hlen:=dZ ks;clear hO hN hs1 hk1 hsm ihe ihs hsk;cases hbb:gB k o n s ns ks.length with
 | false=>
  have HB:=aA hbb;have H:=aA (wC (a:=2) (p:=p) hbb);clear hbb;go_enter Tryz.func86,Tryz.ntmps86;go_wp2_with fail;go_region_held3 (fun a=>(Below w.heap.size w a∧kZ w.heap.size k o n s (.slice a1 ns.length q1) (.slice a2 ks.length q2) p a∧Ok B a∧cE B (.slice a1 ns.length q1) ns a∧dI B a (.slice a2 ks.length q2) ks)∧a.cell? ⟨w.heap.size,0,none⟩=some (.int .i64 k)∧a.cell? ⟨w.heap.size,1,none⟩=some (.int .i64 o)∧a.cell? ⟨w.heap.size,2,none⟩=some (.int .i64 n)∧a.cell? ⟨w.heap.size,3,none⟩=some (.string s)∧
     a.cell? ⟨w.heap.size,4,none⟩=some (.slice a1 ns.length q1)∧a.cell? ⟨w.heap.size,5,none⟩=some (.slice a2 ks.length q2)∧a.cell? ⟨w.heap.size,6,none⟩=some (.int .i64 p))
   (first | exact gZ (by assumption) bb | exact gZ NEW.out (Below.refl _ _).drew | exact gZ (by assumption) (Below.refl _ _).drew)
   (first
    | (go_at_call 60;refine (mK B _ k o n s ns a1 q1 a2 ks.length q2 p (nE (by assumption)) (aA (nF (by assumption)))).mono ?_;rintro e wx ⟨x1,y1,z1,x2,z2,rfl,hst,bb⟩)
    | (go_at_call 31;refine (nU B _ k o n s ns a1 q1 a2 ks.length q2 p _ _ _ _ _ (nE (by assumption)) (nF (by assumption)) hst.out (by omega)).mono ?_;rintro e wx ⟨he,bb⟩;rw [HB.out] at he;subst he))
  rename_i hz;have Z:=aA hz.1.1;clear hz;go_wp2_with fail;go_ret;exact⟨by rw [H.out];rfl,Z.out⟩
 | true=>
  have HB:=aA hbb;clear hbb;go_enter Tryz.func86,Tryz.ntmps86;go_wp2_with fail;go_region_held3 (fun a=>(Below w.heap.size w a∧kZ w.heap.size k o n s (.slice a1 ns.length q1) (.slice a2 ks.length q2) p a∧Ok B a∧cE B (.slice a1 ns.length q1) ns a∧dI B a (.slice a2 ks.length q2) ks)∧a.cell? ⟨w.heap.size,0,none⟩=some (.int .i64 k)∧a.cell? ⟨w.heap.size,1,none⟩=some (.int .i64 o)∧a.cell? ⟨w.heap.size,2,none⟩=some (.int .i64 n)∧a.cell? ⟨w.heap.size,3,none⟩=some (.string s)∧
     a.cell? ⟨w.heap.size,4,none⟩=some (.slice a1 ns.length q1)∧a.cell? ⟨w.heap.size,5,none⟩=some (.slice a2 ks.length q2)∧a.cell? ⟨w.heap.size,6,none⟩=some (.int .i64 p))
   (first | exact gZ (by assumption) bb | exact gZ NEW.out (Below.refl _ _).drew | exact gZ (by assumption) (Below.refl _ _).drew)
   (first
    | (go_at_call 60;refine (mK B _ k o n s ns a1 q1 a2 ks.length q2 p (nE (by assumption)) (aA (nF (by assumption)))).mono ?_;rintro e wx ⟨x1,y1,z1,x2,z2,rfl,hst,bb⟩)
    | (go_at_call 31;refine (nU B _ k o n s ns a1 q1 a2 ks.length q2 p _ _ _ _ _ (nE (by assumption)) (nF (by assumption)) hst.out (by omega)).mono ?_;rintro e wx ⟨he,bb⟩;rw [HB.out] at he;subst he))
  rename_i hz;obtain⟨⟨zb,zx,zo,zs,zk⟩,c0,c1,c2,c3,c4,c5,c6⟩:=hz;have Z:=aA zb;have ZX:=aA zx;have ZO:=aA zo;have ZS:=aA zs;have ZK:=aA zk;clear zb zx zo zs zk NEW;by_cases hk21:k=21
  ·subst hk21;have H:=aA (show rightN (.mk 21 o n s ns ks p) 2=(properB s&&(decide (ks.length=1)&&(!ks.any fun x=>!rightN x 1))) by rw [KA o n s ns ks p,HB.out,Bool.true_and]);go_wp2_with fail;refine (oC s _).mono ?_;rintro e wz ⟨rfl,rfl⟩;generalize properB s=nb at *
   cases nb
   ·go_wp2_with fail;go_ret;exact⟨by rw [H.out];rfl,Z.out⟩
   ·go_wp2_with fail;refine (cO B _ _ ks 1 ZO ZK SK.out (by omega) IE.out).mono ?_;rintro e wz ⟨rfl,bz⟩;have ZZ:=aA (aG Z.out (Nat.le_refl _) bz);clear bz;go_wp2_with fail;go_ret;exact⟨by rw [H.out];rfl,ZZ.out⟩
  by_cases hk22:k=22
  ·subst hk22;have H:=aA (show rightN (.mk 22 o n s ns ks p) 2=(properB s&&(decide (ks.length=1)&&(!ks.any fun x=>!rightN x 1))) by rw [KB o n s ns ks p,HB.out,Bool.true_and]);go_wp2_with fail;refine (oC s _).mono ?_;rintro e wz ⟨rfl,rfl⟩;generalize properB s=nb at *
   cases nb
   ·go_wp2_with fail;go_ret;exact⟨by rw [H.out];rfl,Z.out⟩
   ·go_wp2_with fail;refine (cO B _ _ ks 1 ZO ZK SK.out (by omega) IE.out).mono ?_;rintro e wz ⟨rfl,bz⟩;have ZZ:=aA (aG Z.out (Nat.le_refl _) bz);clear bz;go_wp2_with fail;go_ret;exact⟨by rw [H.out];rfl,ZZ.out⟩
  by_cases hk23:k=23
  ·subst hk23;have H:=aA (show rightN (.mk 23 o n s ns ks p) 2=(dM s&&(decide (ks.length=2)&&(!ks.any fun x=>!rightN x 1))) by rw [KC o n s ns ks p,HB.out,Bool.true_and]);go_wp2_with fail;refine (iY s _).mono ?_;rintro e wz ⟨rfl,rfl⟩;have HP:=aA (show dM s=nameB s.data.toList from rfl);rw [HP.out] at H;clear HP;generalize nameB s.data.toList=nb at *
   cases nb
   ·go_wp2_with fail;go_ret;exact⟨by rw [H.out];rfl,Z.out⟩
   ·go_wp2_with fail;refine (cO B _ _ ks 2 ZO ZK SK.out (by omega) IE.out).mono ?_;rintro e wz ⟨rfl,bz⟩;have ZZ:=aA (aG Z.out (Nat.le_refl _) bz);clear bz;go_wp2_with fail;go_ret;exact⟨by rw [H.out];rfl,ZZ.out⟩
  by_cases hk24:k=24
  ·subst hk24;have H:=aA (show rightN (.mk 24 o n s ns ks p) 2=(decide (ks.length=3)&&(!ks.any fun x=>!rightN x 1)) by rw [KD o n s ns ks p,HB.out,Bool.true_and]);go_wp2_with fail;refine (cO B _ _ ks 3 ZO ZK SK.out (by omega) IE.out).mono ?_;rintro e wz ⟨rfl,bz⟩;have ZZ:=aA (aG Z.out (Nat.le_refl _) bz);clear bz;go_wp2_with fail;go_ret;exact⟨by rw [H.out];rfl,ZZ.out⟩
  by_cases hk25:k=25
  ·subst hk25;have H:=aA (show rightN (.mk 25 o n s ns ks p) 2=(dM s&&(decide (ks.length=1)&&(!ks.any fun x=>!rightN x 1))) by rw [KE o n s ns ks p,HB.out,Bool.true_and]);go_wp2_with fail;refine (iY s _).mono ?_;rintro e wz ⟨rfl,rfl⟩;have HP:=aA (show dM s=nameB s.data.toList from rfl);rw [HP.out] at H;clear HP;generalize nameB s.data.toList=nb at *
   cases nb
   ·go_wp2_with fail;go_ret;exact⟨by rw [H.out];rfl,Z.out⟩
   ·go_wp2_with fail;refine (cO B _ _ ks 1 ZO ZK SK.out (by omega) IE.out).mono ?_;rintro e wz ⟨rfl,bz⟩;have ZZ:=aA (aG Z.out (Nat.le_refl _) bz);clear bz;go_wp2_with fail;go_ret;exact⟨by rw [H.out];rfl,ZZ.out⟩
  by_cases hk26:k=26
  ·subst hk26;have H:=aA (show rightN (.mk 26 o n s ns ks p) 2=(decide (ks.length=2)&&(!ks.any fun x=>!rightN x 1)) by rw [KF o n s ns ks p,HB.out,Bool.true_and]);go_wp2_with fail;refine (cO B _ _ ks 2 ZO ZK SK.out (by omega) IE.out).mono ?_;rintro e wz ⟨rfl,bz⟩;have ZZ:=aA (aG Z.out (Nat.le_refl _) bz);clear bz;go_wp2_with fail;go_ret;exact⟨by rw [H.out];rfl,ZZ.out⟩
  by_cases hk27:k=27
  ·subst hk27;have H:=aA (show rightN (.mk 27 o n s ns ks p) 2=(decide (ks.length=1)&&(!ks.any fun x=>!rightN x 1)) by rw [KG o n s ns ks p,HB.out,Bool.true_and]);go_wp2_with fail;refine (cO B _ _ ks 1 ZO ZK SK.out (by omega) IE.out).mono ?_;rintro e wz ⟨rfl,bz⟩;have ZZ:=aA (aG Z.out (Nat.le_refl _) bz);clear bz;go_wp2_with fail;go_ret;exact⟨by rw [H.out];rfl,ZZ.out⟩
  by_cases hk28:k=28
  ·subst hk28;by_cases hl:ks.length=3
   ·obtain⟨u,v,t,rfl⟩:=vH hl;have H:=aA (show rightN (.mk 28 o n s ns [u,v,t] p) 2=(rightN u 1&&(rightN v 3&&rightN t 3)) by rw [KQ,show gB 28 o n s ns 3=true from HB.out,Bool.true_and]);have hcu:bM u≤1000000∧bM v≤1000000∧bM t≤1000000:=by simp only [bW] at hc;omega
    obtain⟨hcu,hcv,hct⟩:=hcu;clear hl hc hlen HB;simp only [List.length_cons,List.length_nil,Nat.zero_add,Nat.reduceAdd] at *
    obtain⟨b,off,rfl,hbB,hat⟩:=gR ZK.out (by simp);obtain⟨nu,ku,hnu,hiu⟩:=fZ hat 0 (by simp);simp only [List.getElem_cons_zero,Nat.zero_mul,Nat.add_zero] at hnu hiu;obtain⟨gu0,gu1,gu2,gu3,rfl,rfl⟩:=cC hiu;obtain⟨mu0,mu1,mu2,mu3,mu4,mu5,mu6⟩:=hnu;have Nu:=aA hiu;have HAT0:=aA hat;clear hiu hat;go_wp2_with fail;refine (IE.out u (by simp) B _ _ _ ZO Nu (SK.out u (by simp)) (by omega)).mono ?_;rintro e wz0 ⟨rfl,bz0⟩;have Z0:=aA (aG Z.out (Nat.le_refl _) bz0);have bq:=bz0.mono ZO.out.1;have X0:=aA (lX ZX.out bz0);have c5_0:=(aI X0.out).2.2.2.2.2.1;have O0:=aA (aR ZO.out bq);have hat0:=gK bq hbB _ _ HAT0.out;clear bz0 bq Nu HAT0;generalize rightN u 1=r0 at *
    cases r0
    ·go_wp2_with fail;go_ret;exact⟨by rw [H.out];rfl,Z0.out⟩
    ·clear c5;obtain⟨nv,kv,hnv,hiv⟩:=fZ hat0 1 (by simp);simp only [List.getElem_cons_succ,List.getElem_cons_zero,Nat.one_mul] at hnv hiv;obtain⟨gv0,gv1,gv2,gv3,rfl,rfl⟩:=cC hiv;obtain⟨mv0,mv1,mv2,mv3,mv4,mv5,mv6⟩:=hnv;have Nv:=aA hiv;have HAT1:=aA hat0;clear hiv hat0;go_wp2_with fail;refine (IB.out v (by simp) B _ _ _ O0 Nv (SK.out v (by simp)) (by omega)).mono ?_;rintro e wz1 ⟨rfl,bz1⟩;have Z1:=aA (aG Z0.out (Nat.le_refl _) bz1);have bq:=bz1.mono O0.out.1;have X1:=aA (lX X0.out bz1);have c5_1:=(aI X1.out).2.2.2.2.2.1;have O1:=aA (aR O0.out bq);have hat1:=gK bq hbB _ _ HAT1.out;clear bz1 bq Nv HAT1;generalize rightN v 3=r1 at *
     cases r1
     ·go_wp2_with fail;go_ret;exact⟨by rw [H.out];rfl,Z1.out⟩
     ·clear c5_0;obtain⟨nt,kt,hnt,hit⟩:=fZ hat1 2 (by simp);simp only [List.getElem_cons_succ,List.getElem_cons_zero,Nat.reduceMul] at hnt hit;obtain⟨gt0,gt1,gt2,gt3,rfl,rfl⟩:=cC hit;obtain⟨mt0,mt1,mt2,mt3,mt4,mt5,mt6⟩:=hnt;have Nt:=aA hit;have HAT2:=aA hat1;clear hit hat1;go_wp2_with fail;refine (IB.out t (by simp) B _ _ _ O1 Nt (SK.out t (by simp)) (by omega)).mono ?_;rintro e wz2 ⟨rfl,bz2⟩;have Z2:=aA (aG Z1.out (Nat.le_refl _) bz2);have bq:=bz2.mono O1.out.1;have X2:=aA (lX X1.out bz2);have c5_2:=(aI X2.out).2.2.2.2.2.1;have O2:=aA (aR O1.out bq);have hat2:=gK bq hbB _ _ HAT2.out;clear bz2 bq Nt HAT2;generalize rightN t 3=r2 at *
      cases r2
      ·go_wp2_with fail;go_ret;exact⟨by rw [H.out];rfl,Z2.out⟩
      ·clear hat2;go_wp2_with fail;go_ret;exact⟨by rw [H.out];rfl,Z2.out⟩
   ·have H:=aA (show rightN (.mk 28 o n s ns ks p) 2=false from BV hl);have e0:((ks.length:Int)==3)=false:=beq_eq_false_iff_ne.2 (by omega);clear hl;go_wp2_with fail;go_ret;exact⟨by rw [H.out];rfl,Z.out⟩
  by_cases hk30:k=30
  ·subst hk30;by_cases hl:ks.length=2
   ·obtain⟨u,v,rfl⟩:=oF hl;have H:=aA (show rightN (.mk 30 o n s ns [u,v] p) 2=(rightN u 1&&rightN v 3) by rw [KR,show gB 30 o n s ns 2=true from HB.out,Bool.true_and]);have hcu:bM u≤1000000∧bM v≤1000000:=by simp only [bW] at hc;omega
    obtain⟨hcu,hcv⟩:=hcu;clear hl hc hlen HB;simp only [List.length_cons,List.length_nil,Nat.zero_add,Nat.reduceAdd] at *
    obtain⟨b,off,rfl,hbB,hat⟩:=gR ZK.out (by simp);obtain⟨nu,ku,hnu,hiu⟩:=fZ hat 0 (by simp);simp only [List.getElem_cons_zero,Nat.zero_mul,Nat.add_zero] at hnu hiu;obtain⟨gu0,gu1,gu2,gu3,rfl,rfl⟩:=cC hiu;obtain⟨mu0,mu1,mu2,mu3,mu4,mu5,mu6⟩:=hnu;have Nu:=aA hiu;have HAT0:=aA hat;clear hiu hat;go_wp2_with fail;refine (IE.out u (by simp) B _ _ _ ZO Nu (SK.out u (by simp)) (by omega)).mono ?_;rintro e wz0 ⟨rfl,bz0⟩;have Z0:=aA (aG Z.out (Nat.le_refl _) bz0);have bq:=bz0.mono ZO.out.1;have X0:=aA (lX ZX.out bz0);have c5_0:=(aI X0.out).2.2.2.2.2.1;have O0:=aA (aR ZO.out bq);have hat0:=gK bq hbB _ _ HAT0.out;clear bz0 bq Nu HAT0;generalize rightN u 1=r0 at *
    cases r0
    ·go_wp2_with fail;go_ret;exact⟨by rw [H.out];rfl,Z0.out⟩
    ·clear c5;obtain⟨nv,kv,hnv,hiv⟩:=fZ hat0 1 (by simp);simp only [List.getElem_cons_succ,List.getElem_cons_zero,Nat.one_mul] at hnv hiv;obtain⟨gv0,gv1,gv2,gv3,rfl,rfl⟩:=cC hiv;obtain⟨mv0,mv1,mv2,mv3,mv4,mv5,mv6⟩:=hnv;have Nv:=aA hiv;have HAT1:=aA hat0;clear hiv hat0;go_wp2_with fail;refine (IB.out v (by simp) B _ _ _ O0 Nv (SK.out v (by simp)) (by omega)).mono ?_;rintro e wz1 ⟨rfl,bz1⟩;have Z1:=aA (aG Z0.out (Nat.le_refl _) bz1);have bq:=bz1.mono O0.out.1;have X1:=aA (lX X0.out bz1);have c5_1:=(aI X1.out).2.2.2.2.2.1;have O1:=aA (aR O0.out bq);have hat1:=gK bq hbB _ _ HAT1.out;clear bz1 bq Nv HAT1;generalize rightN v 3=r1 at *
     cases r1
     ·go_wp2_with fail;go_ret;exact⟨by rw [H.out];rfl,Z1.out⟩
     ·clear hat1;go_wp2_with fail;go_ret;exact⟨by rw [H.out];rfl,Z1.out⟩
   ·have H:=aA (show rightN (.mk 30 o n s ns ks p) 2=false from BW hl);have e0:((ks.length:Int)==2)=false:=beq_eq_false_iff_ne.2 (by omega);clear hl;go_wp2_with fail;go_ret;exact⟨by rw [H.out];rfl,Z.out⟩
  by_cases hk31:k=31
  ·subst hk31;have H:=aA (show rightN (.mk 31 o n s ns ks p) 2=(decide (ks.length=1)&&(!ks.any fun x=>!rightN x 1)) by rw [KH o n s ns ks p,HB.out,Bool.true_and]);go_wp2_with fail;refine (cO B _ _ ks 1 ZO ZK SK.out (by omega) IE.out).mono ?_;rintro e wz ⟨rfl,bz⟩;have ZZ:=aA (aG Z.out (Nat.le_refl _) bz);clear bz;go_wp2_with fail;go_ret;exact⟨by rw [H.out];rfl,ZZ.out⟩
  by_cases hk32:k=32
  ·subst hk32;have H:=aA (show rightN (.mk 32 o n s ns ks p) 2=(decide (ks.length=1)&&(!ks.any fun x=>!rightN x 1)) by rw [KJ o n s ns ks p,HB.out,Bool.true_and]);go_wp2_with fail;refine (cO B _ _ ks 1 ZO ZK SK.out (by omega) IE.out).mono ?_;rintro e wz ⟨rfl,bz⟩;have ZZ:=aA (aG Z.out (Nat.le_refl _) bz);clear bz;go_wp2_with fail;go_ret;exact⟨by rw [H.out];rfl,ZZ.out⟩
  have H:=aA (show rightN (.mk k o n s ns ks p) 2=false by rw [aP,EI (by omega)];rfl);have e21:(k==21)=false:=beq_eq_false_iff_ne.2 hk21;have e22:(k==22)=false:=beq_eq_false_iff_ne.2 hk22;have e23:(k==23)=false:=beq_eq_false_iff_ne.2 hk23;have e24:(k==24)=false:=beq_eq_false_iff_ne.2 hk24;have e25:(k==25)=false:=beq_eq_false_iff_ne.2 hk25;have e26:(k==26)=false:=beq_eq_false_iff_ne.2 hk26;have e27:(k==27)=false:=beq_eq_false_iff_ne.2 hk27;have e28:(k==28)=false:=beq_eq_false_iff_ne.2 hk28;have e30:(k==30)=false:=beq_eq_false_iff_ne.2 hk30;have e31:(k==31)=false:=beq_eq_false_iff_ne.2 hk31;have e32:(k==32)=false:=beq_eq_false_iff_ne.2 hk32;clear hk21 hk22 hk23 hk24 hk25 hk26 hk27 hk28 hk30 hk31 hk32;go_wp2_with fail;go_ret;exact⟨by rw [H.out];rfl,Z.out⟩
theorem Ge (x:Nd):sC x∧uC x∧Aw x:=by
 refine Nd.ind (P:=fun x=>sC x∧uC x∧Aw x) ?_ x;intro k o n s ns ks p ih;exact⟨MO k o n s ns ks p (fun x hx=>(ih x hx).1) (fun x hx=>(ih x hx).2.1),MP k o n s ns ks p (fun x hx=>(ih x hx).1) (fun x hx=>(ih x hx).2.2),Jm k o n s ns ks p (fun x hx=>(ih x hx).2.1)⟩
theorem Jp (x:Nd) (B:Nat) (w:World) (nv kv:Value) (hO:Hid (Ok B w)) (hN:Hid (jS B w x nv kv)) (hs:dL x=true) (hc:bM x≤1000000) :
  Calls Tryz.prog 18 #[.agg #[.int .i64 x.kind,.int .i64 x.op,.int .i64 x.num,.string x.str,nv,kv,.int .i64 x.pl]] w fun e w'=>
   e=.returned (.int .i64 (checkN x))∧Below w.heap.size w w':=by
 obtain⟨a1,q1,a2,q2,rfl,rfl⟩:=cC hN.out;have hal:=(Below.refl w.heap.size w).alloc (Nat.le_refl _) (.cells #[.int .i64 x.kind,.int .i64 x.op,.int .i64 x.num,.string x.str,.slice a1 x.names.length q1,.slice a2 x.kids.length q2,.int .i64 x.pl] 26);have hB:=hO.out.1;have AL:=aA hal;have N:=aA (eQ (hal.mono hB) _ _ _ hN.out);have O:=aA (aR hO.out (hal.mono hB));have X:=aA (cL w x.kind x.op x.num x.str (.slice a1 x.names.length q1) (.slice a2 x.kids.length q2) x.pl);have HS:=aA hs;have H:=aA (show checkN x=if decide (12<eZ x) then 13 else if rightN x 3 then 0 else 2 by unfold checkN;simp only [decide_eq_true_eq]);clear hal hN hO hs;go_enter Tryz.func18,Tryz.ntmps18;go_wp2_with fail;refine (Eu x B _ _ _ 12 (by simp;omega) N hc (by omega)).mono ?_;rintro e w1 ⟨rfl,b1⟩;have B1:=aA (aG AL.out (by simp) b1);have bq:Below B _ w1:=b1.mono (by simp;omega);have N1:=aA (eQ bq _ _ _ N.out);have O1:=aA (aR O.out bq);obtain⟨c0,c1,c2,c3,c4,c5,c6⟩:=aI (lX X.out b1);clear b1 bq N O X AL;generalize decide (12<eZ x)=hb at *
 cases hb
 ·go_wp2_with fail;refine ((Ge x).2.2 B _ _ _ O1 N1 HS.out hc).mono ?_;rintro e w2 ⟨rfl,b2⟩;have B2:=aA (aG B1.out (Nat.le_refl _) b2);clear b2 B1 N1 O1;generalize rightN x 3=rb at *
  cases rb
  ·go_wp2_with fail;go_ret;exact⟨by rw [H.out];rfl,B2.out⟩
  ·go_wp2_with fail;go_ret;exact⟨by rw [H.out];rfl,B2.out⟩
 ·go_wp2_with fail;go_ret;exact⟨by rw [H.out];rfl,B1.out⟩
theorem MT {B B':Nat} {w:World} {v:Value} {l:List ByteArray} (hB:B≤B') (h:cE B v l w):cE B' v l w:=by
 rcases h with h | ⟨b,off,cap,h1,h2,h3,h4⟩
 ·exact .inl h
 ·exact .inr ⟨b,off,cap,h1,Nat.lt_of_lt_of_le h2 hB,h3,h4⟩
mutual
theorem xW {B B':Nat} {w:World} (hB:B≤B'):∀ (t:Nd) (nv kv:Value),jS B w t nv kv→jS B' w t nv kv
 | .mk _ _ _ _ ns ks _,nv,kv,h=>by
  rw [jS] at h ⊢;obtain⟨h1,h2⟩:=h;refine⟨MT hB h1,?_⟩;rcases h2 with h2 | ⟨b,off,cap,e,hb,h3,h4⟩
  ·exact .inl h2
  ·exact .inr ⟨b,off,cap,e,Nat.lt_of_lt_of_le hb hB,Cb hB ks off h3,h4⟩
theorem Cb {B B':Nat} {w:World} {b:Nat} (hB:B≤B'):∀ (ks:List Nd) (off:Nat),jN B w b ks off→jN B' w b ks off
 | [],_,_=>by rw [jN];trivial
 | .mk k op n s ns ks p::r,off,h=>by
  rw [jN] at h ⊢;obtain⟨⟨nv,kv,h1,h2⟩,h3⟩:=h;exact⟨⟨nv,kv,h1,xW hB _ _ _ h2⟩,Cb hB r _ h3⟩
end
theorem MU {B B':Nat} {w:World} {kv:Value} {ks:List Nd} (hB:B≤B') (h:dI B w kv ks):dI B' w kv ks:=by
 rcases h with h2 | ⟨b,off,cap,e,hb,h3,h4⟩
 ·exact .inl h2
 ·exact .inr ⟨b,off,cap,e,Nat.lt_of_lt_of_le hb hB,Cb hB ks off h3,h4⟩
theorem Sp {B B':Nat} {w:World} (hB:B≤B') (hw:B'≤w.heap.size) (h:Ok B w):Ok B' w:=⟨hw,Nat.lt_of_lt_of_le h.2.1 hB,h.2.2⟩
end Go.Proofs.YtdnnmjhfidimcaaGreatDoor
