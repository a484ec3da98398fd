/- The document's tokens: one, and all. All tokens of a text, as the document reads them. -/
import Derived.Test.YtdnnmjhfidimcaaGreatDoorJoint33
namespace Go.Proofs.YtdnnmjhfidimcaaGreatDoor
set_option maxRecDepth 100000
set_option maxHeartbeats 1600000
open Go.RowKit
theorem Gj (s:ByteArray) (hs:s.size≤1000000) (k:Nat) (hk:k<s.size) (hl:aW s[k].toNat=true) (w:World) :
  Calls Tryz.prog 30 #[.string s,.int .i64 k] w fun e w'=>e=TokOut.ending (cA (s.data.toList.drop k) k)∧Below w.heap.size w w':=by
 have b0:=aA ((Below.refl w.heap.size w).alloc (Nat.le_refl _) (.cells #[.int .i64 0,.string ⟨#[]⟩,.int .i64 0,.int .i64 0] 58));have S0:=aA (lC w rfl 58);have hq:cA (s.data.toList.drop k) k=(if aW s[k].toNat then hD (s.data.toList.drop k) k else if bA s[k].toNat then iB (s.data.toList.drop k) k else if s[k].toNat=34 then jX (s.data.toList.drop k) k else kK (s.data.toList.drop k) k):=by
  rw [aZ s k hk];rfl
 have hq:=(hq.trans (by rw [hl,if_pos rfl]):cA (s.data.toList.drop k) k=hD (s.data.toList.drop k) k)
 have Hl:=aA hl;clear hl;have hm1:=mN dS s k;have hm2:=qU (p:=dS) (Nat.le_of_lt hk);conv at hq=>rhs;unfold hD
 have hto:k+jH dS (s.data.toList.drop k)=runTo dS s k:=rfl;have hcb:(⟨((s.data.toList.drop k).take (jH dS (s.data.toList.drop k))).toArray⟩:ByteArray)=s.extract k (runTo dS s k):=(CZ s k _).symm;have hcut:(s.data.toList.drop k).take (jH dS (s.data.toList.drop k))=(s.extract k (runTo dS s k)).data.toList:=by
  rw [mU];unfold runTo;rw [Nat.add_sub_cancel_left]
 rw [hcb,hcut,hto] at hq;clear hto hcb hcut;have HQ:=aA hq;clear hq;go_enter Tryz.func30,Tryz.ntmps30;go_wp2_with fail;refine (eY _ _).mono ?_;rintro e w0 ⟨rfl,hw⟩;rw [hw] at b0 S0;clear hw;rw [Hl.out];go_wp2_with fail;go_loop [7] (fun i=>∃ j:Nat,k≤j∧j≤s.size∧i=.int .i64 j∧runTo dS s k=runTo dS s j) (fun i=>s.size - (intOf i).toNat)
 case atStart=>exact⟨k,Nat.le_refl _,Nat.le_of_lt hk,rfl,rfl⟩
 case round=>
  obtain⟨j,hkj,hj,rfl,hrun⟩:=hrel;have STOP:runTo dS s k=j→Hid (cA (s.data.toList.drop k) k=(if iW (s.extract k j).data.toList then (⟨2,s.extract k j,0,k⟩,j,0) else if nameB (s.extract k j).data.toList then (⟨1,s.extract k j,0,k⟩,j,0) else (Tok.zero,k,11))):=by
   intro h;have:=HQ.out;rw [h] at this;exact this
  clear HQ;by_cases hjl:j<s.size
  ·cases hlj:aW s[j].toNat with
   | true=>
    have H:=aA (hrun.trans (kQ hjl (by simp [dS,hlj])));have Hp:=aA hlj;clear hrun hlj STOP;go_wp2_with fail;refine (eY _ _).mono ?_;rintro e w1 ⟨rfl,rfl⟩;rw [Hp.out];go_wp2;go_round
    case rel=>exact⟨j+1,by omega,by omega,by go_num,H.out⟩
    case measure=>simp [intOf];omega
   | false=>
    cases hdj:bA s[j].toNat with
    | true=>
     have H:=aA (hrun.trans (kQ hjl (by simp [dS,hdj])));have Hp:=aA hlj;have Hd:=aA hdj;clear hrun hlj hdj STOP;go_wp2_with fail;refine (eY _ _).mono ?_;rintro e w1 ⟨rfl,rfl⟩;rw [Hp.out];go_wp2_with fail;refine (fG _ _).mono ?_;rintro e w1 ⟨rfl,rfl⟩;rw [Hd.out];go_wp2;go_round
     case rel=>exact⟨j+1,by omega,by omega,by go_num,H.out⟩
     case measure=>simp [intOf];omega
    | false=>
     have E:=STOP (hrun.trans (kY hjl (by simp [dS,hlj,hdj])));have Hp:=aA hlj;have Hd:=aA hdj;clear hrun hlj hdj STOP;cases hkey:iW (s.extract k j).data.toList with
     | true=>
      have H:=aA (E.out.trans (by rw [hkey,if_pos rfl]));have Hk:=aA hkey;clear E hkey;go_wp2_with fail;refine (eY _ _).mono ?_;rintro e w1 ⟨rfl,rfl⟩;rw [Hp.out];go_wp2_with fail;refine (fG _ _).mono ?_;rintro e w1 ⟨rfl,rfl⟩;rw [Hd.out];go_wp2_with fail;refine (jL _ _).mono ?_;rintro e w2 ⟨rfl,b2⟩;rw [Hk.out];have B2:=aA (aG b0.out (Nat.le_refl _) b2);have S2:=aA (dW S0.out b2);have⟨g0,c0,c1,c2,c3,f0,f1,f2,f3⟩:=S2.out;clear b2 b0 S0;go_wp2;rw [H.out];exact bodyPost_ret (mA rfl rfl (cF S2.out _ _ _ _)) rfl ⟨rfl,mW B2.out (Nat.le_refl _) _ _ _ _⟩
     | false=>
      cases hnm:nameB (s.extract k j).data.toList with
      | true=>
       have H:=aA (E.out.trans (by rw [hkey,if_neg (by decide),hnm,if_pos rfl]));have Hk:=aA hkey;have Hn:=aA hnm;clear E hkey hnm;go_wp2_with fail;refine (eY _ _).mono ?_;rintro e w1 ⟨rfl,rfl⟩;rw [Hp.out];go_wp2_with fail;refine (fG _ _).mono ?_;rintro e w1 ⟨rfl,rfl⟩;rw [Hd.out];go_wp2_with fail;refine (jL _ _).mono ?_;rintro e w2 ⟨rfl,b2⟩;rw [Hk.out];have B2:=aA (aG b0.out (Nat.le_refl _) b2);have S2:=aA (dW S0.out b2);have⟨g0,c0,c1,c2,c3,f0,f1,f2,f3⟩:=S2.out;clear b2 b0 S0;go_wp2_with fail;refine (lU _ _).mono ?_;rintro e w3 ⟨rfl,rfl⟩;rw [Hn.out];go_wp2;rw [H.out];exact bodyPost_ret (mA rfl rfl (cF S2.out _ _ _ _)) rfl ⟨rfl,mW B2.out (Nat.le_refl _) _ _ _ _⟩
      | false=>
       have H:=aA (E.out.trans (by rw [hkey,if_neg (by decide),hnm,if_neg (by decide)]));have Hk:=aA hkey;have Hn:=aA hnm;clear E hkey hnm;go_wp2_with fail;refine (eY _ _).mono ?_;rintro e w1 ⟨rfl,rfl⟩;rw [Hp.out];go_wp2_with fail;refine (fG _ _).mono ?_;rintro e w1 ⟨rfl,rfl⟩;rw [Hd.out];go_wp2_with fail;refine (jL _ _).mono ?_;rintro e w2 ⟨rfl,b2⟩;rw [Hk.out];have B2:=aA (aG b0.out (Nat.le_refl _) b2);have S2:=aA (dW S0.out b2);have⟨g0,c0,c1,c2,c3,f0,f1,f2,f3⟩:=S2.out;clear b2 b0 S0;go_wp2_with fail;refine (lU _ _).mono ?_;rintro e w3 ⟨rfl,rfl⟩;rw [Hn.out];go_wp2;rw [H.out];exact bodyPost_ret (mA rfl rfl (cF S2.out _ _ _ _)) rfl ⟨rfl,mW B2.out (Nat.le_refl _) _ _ _ _⟩
  ·have E:=STOP (hrun.trans (kF (by omega)));clear hrun STOP;cases hkey:iW (s.extract k j).data.toList with
   | true=>
    have H:=aA (E.out.trans (by rw [hkey,if_pos rfl]));have Hk:=aA hkey;clear E hkey;go_wp2_with fail;refine (jL _ _).mono ?_;rintro e w2 ⟨rfl,b2⟩;rw [Hk.out];have B2:=aA (aG b0.out (Nat.le_refl _) b2);have S2:=aA (dW S0.out b2);have⟨g0,c0,c1,c2,c3,f0,f1,f2,f3⟩:=S2.out;clear b2 b0 S0;go_wp2;rw [H.out];exact bodyPost_ret (mA rfl rfl (cF S2.out _ _ _ _)) rfl ⟨rfl,mW B2.out (Nat.le_refl _) _ _ _ _⟩
   | false=>
    cases hnm:nameB (s.extract k j).data.toList with
    | true=>
     have H:=aA (E.out.trans (by rw [hkey,if_neg (by decide),hnm,if_pos rfl]));have Hk:=aA hkey;have Hn:=aA hnm;clear E hkey hnm;go_wp2_with fail;refine (jL _ _).mono ?_;rintro e w2 ⟨rfl,b2⟩;rw [Hk.out];have B2:=aA (aG b0.out (Nat.le_refl _) b2);have S2:=aA (dW S0.out b2);have⟨g0,c0,c1,c2,c3,f0,f1,f2,f3⟩:=S2.out;clear b2 b0 S0;go_wp2_with fail;refine (lU _ _).mono ?_;rintro e w3 ⟨rfl,rfl⟩;rw [Hn.out];go_wp2;rw [H.out];exact bodyPost_ret (mA rfl rfl (cF S2.out _ _ _ _)) rfl ⟨rfl,mW B2.out (Nat.le_refl _) _ _ _ _⟩
    | false=>
     have H:=aA (E.out.trans (by rw [hkey,if_neg (by decide),hnm,if_neg (by decide)]));have Hk:=aA hkey;have Hn:=aA hnm;clear E hkey hnm;go_wp2_with fail;refine (jL _ _).mono ?_;rintro e w2 ⟨rfl,b2⟩;rw [Hk.out];have B2:=aA (aG b0.out (Nat.le_refl _) b2);have S2:=aA (dW S0.out b2);have⟨g0,c0,c1,c2,c3,f0,f1,f2,f3⟩:=S2.out;clear b2 b0 S0;go_wp2_with fail;refine (lU _ _).mono ?_;rintro e w3 ⟨rfl,rfl⟩;rw [Hn.out];go_wp2;rw [H.out];exact bodyPost_ret (mA rfl rfl (cF S2.out _ _ _ _)) rfl ⟨rfl,mW B2.out (Nat.le_refl _) _ _ _ _⟩
theorem Jt (s:ByteArray) (hs:s.size≤1000000) (k:Nat) (hk:k<s.size) (hl:aW s[k].toNat=false) (hd:bA s[k].toNat=true) (w:World) :
  Calls Tryz.prog 30 #[.string s,.int .i64 k] w fun e w'=>e=TokOut.ending (cA (s.data.toList.drop k) k)∧Below w.heap.size w w':=by
 have b0:=aA ((Below.refl w.heap.size w).alloc (Nat.le_refl _) (.cells #[.int .i64 0,.string ⟨#[]⟩,.int .i64 0,.int .i64 0] 58));have S0:=aA (lC w rfl 58);have hq:cA (s.data.toList.drop k) k=(if aW s[k].toNat then hD (s.data.toList.drop k) k else if bA s[k].toNat then iB (s.data.toList.drop k) k else if s[k].toNat=34 then jX (s.data.toList.drop k) k else kK (s.data.toList.drop k) k):=by
  rw [aZ s k hk];rfl
 have hq:=(hq.trans (by rw [hl,if_neg (by decide),hd,if_pos rfl]):cA (s.data.toList.drop k) k=iB (s.data.toList.drop k) k)
 have Hl:=aA hl;have Hd:=aA hd;clear hl hd;have hm1:=mN bA s k;have hm2:=qU (p:=bA) (Nat.le_of_lt hk);conv at hq=>rhs;unfold iB
 have hto:k+jH bA (s.data.toList.drop k)=runTo bA s k:=rfl;have hcut:(s.data.toList.drop k).take (jH bA (s.data.toList.drop k))=(s.extract k (runTo bA s k)).data.toList:=by
  rw [mU];unfold runTo;rw [Nat.add_sub_cancel_left]
 rw [hcut,hto] at hq;clear hto hcut;have HQ:=aA hq;clear hq;go_enter Tryz.func30,Tryz.ntmps30;go_wp2_with fail;refine (eY _ _).mono ?_;rintro e w0 ⟨rfl,hw⟩;rw [hw] at b0 S0;clear hw;rw [Hl.out];go_wp2_with fail;refine (fG _ _).mono ?_;rintro e w00 ⟨rfl,rfl⟩;rw [Hd.out];go_wp2_with fail;go_loop [7] (fun i=>∃ j:Nat,k≤j∧j≤s.size∧i=.int .i64 j∧runTo bA s k=runTo bA s j) (fun i=>s.size - (intOf i).toNat)
 case atStart=>exact⟨k,Nat.le_refl _,Nat.le_of_lt hk,rfl,rfl⟩
 case round=>
  obtain⟨j,hkj,hj,rfl,hrun⟩:=hrel;have STOP:runTo bA s k=j→Hid (cA (s.data.toList.drop k) k=(if (dD (s.extract k j).data.toList).2=0 then (⟨3,⟨(digs (dD (s.extract k j).data.toList).1).toArray⟩,(dD (s.extract k j).data.toList).1,k⟩,j,0) else (Tok.zero,k,(dD (s.extract k j).data.toList).2))):=by
   intro h;have:=HQ.out;rw [h] at this;exact this
  clear HQ;by_cases hjl:j<s.size
  ·cases hdj:bA s[j].toNat with
   | true=>
    have H:=aA (hrun.trans (kQ hjl hdj));have Hp:=aA hdj;clear hrun hdj STOP;go_wp2_with fail;refine (fG _ _).mono ?_;rintro e w1 ⟨rfl,rfl⟩;rw [Hp.out];go_wp2;go_round
    case rel=>exact⟨j+1,by omega,by omega,by go_num,H.out⟩
    case measure=>simp [intOf];omega
   | false=>
    have E:=STOP (hrun.trans (kY hjl hdj));have Hp:=aA hdj;clear hrun hdj STOP;have he:=tL (s.extract k j).data.toList;have hbd:=mT (s.extract k j).data.toList;have hxs:(s.extract k j).size≤4611686018427387903:=by rw [tJ s hj];omega
    generalize hr:dD (s.extract k j).data.toList=r at *
    obtain⟨n,e⟩:=r;have Hr:=aA hr;clear hr;simp only at he E hbd;obtain⟨n0,n1⟩:=hbd;rcases (show e=0∨e≠0 from by omega) with rfl | hne
    ·have H:=aA (E.out.trans (by rw [if_pos rfl]));clear E he;go_wp2_with fail;refine (fG _ _).mono ?_;rintro e w1 ⟨rfl,rfl⟩;rw [Hp.out];go_wp2_with fail;refine (nY _ hxs _).mono ?_;rintro e w1 ⟨rfl,rfl⟩;rw [Hr.out];go_wp2_with fail;refine (sO n (by omega) (by omega) _).mono ?_;rintro e w2 ⟨rfl,b2⟩;have B2:=aA (aG b0.out (Nat.le_refl _) b2);have S2:=aA (dW S0.out b2);have⟨g0,c0,c1,c2,c3,f0,f1,f2,f3⟩:=S2.out;clear b2 b0 S0;go_wp2;rw [H.out];exact bodyPost_ret (mA rfl rfl (cF S2.out _ _ _ _)) rfl ⟨rfl,mW B2.out (Nat.le_refl _) _ _ _ _⟩
    ·have H:=aA (E.out.trans (by rw [if_neg hne]));have en:(e != 0)=true:=by rw [bne_iff_ne];exact hne
     clear E hne;have⟨g0,c0,c1,c2,c3,f0,f1,f2,f3⟩:=S0.out;go_wp2_with fail;refine (fG _ _).mono ?_;rintro e w1 ⟨rfl,rfl⟩;rw [Hp.out];go_wp2_with fail;refine (nY _ hxs _).mono ?_;rintro e w1 ⟨rfl,rfl⟩;rw [Hr.out];go_wp2;rw [H.out];exact bodyPost_ret (mA rfl rfl (cF S0.out _ _ _ _)) rfl ⟨rfl,mW b0.out (Nat.le_refl _) _ _ _ _⟩
  ·have E:=STOP (hrun.trans (kF (by omega)));clear hrun STOP;have he:=tL (s.extract k j).data.toList;have hbd:=mT (s.extract k j).data.toList;have hxs:(s.extract k j).size≤4611686018427387903:=by rw [tJ s hj];omega
   generalize hr:dD (s.extract k j).data.toList=r at *
   obtain⟨n,e⟩:=r;have Hr:=aA hr;clear hr;simp only at he E hbd;obtain⟨n0,n1⟩:=hbd;rcases (show e=0∨e≠0 from by omega) with rfl | hne
   ·have H:=aA (E.out.trans (by rw [if_pos rfl]));clear E he;go_wp2_with fail;refine (nY _ hxs _).mono ?_;rintro e w1 ⟨rfl,rfl⟩;rw [Hr.out];go_wp2_with fail;refine (sO n (by omega) (by omega) _).mono ?_;rintro e w2 ⟨rfl,b2⟩;have B2:=aA (aG b0.out (Nat.le_refl _) b2);have S2:=aA (dW S0.out b2);have⟨g0,c0,c1,c2,c3,f0,f1,f2,f3⟩:=S2.out;clear b2 b0 S0;go_wp2;rw [H.out];exact bodyPost_ret (mA rfl rfl (cF S2.out _ _ _ _)) rfl ⟨rfl,mW B2.out (Nat.le_refl _) _ _ _ _⟩
   ·have H:=aA (E.out.trans (by rw [if_neg hne]));have en:(e != 0)=true:=by rw [bne_iff_ne];exact hne
    clear E hne;have⟨g0,c0,c1,c2,c3,f0,f1,f2,f3⟩:=S0.out;go_wp2_with fail;refine (nY _ hxs _).mono ?_;rintro e w1 ⟨rfl,rfl⟩;rw [Hr.out];go_wp2;rw [H.out];exact bodyPost_ret (mA rfl rfl (cF S0.out _ _ _ _)) rfl ⟨rfl,mW b0.out (Nat.le_refl _) _ _ _ _⟩
theorem Ju (s:ByteArray) (hs:s.size≤1000000) (k:Nat) (hk:k<s.size) (hl:aW s[k].toNat=false) (hd:bA s[k].toNat=false) (h34:s[k].toNat=34) (w:World) :
  Calls Tryz.prog 30 #[.string s,.int .i64 k] w fun e w'=>e=TokOut.ending (cA (s.data.toList.drop k) k)∧Below w.heap.size w w':=by
 have b0:=aA ((Below.refl w.heap.size w).alloc (Nat.le_refl _) (.cells #[.int .i64 0,.string ⟨#[]⟩,.int .i64 0,.int .i64 0] 58));have S0:=aA (lC w rfl 58);have hq:cA (s.data.toList.drop k) k=(if aW s[k].toNat then hD (s.data.toList.drop k) k else if bA s[k].toNat then iB (s.data.toList.drop k) k else if s[k].toNat=34 then jX (s.data.toList.drop k) k else kK (s.data.toList.drop k) k):=by
  rw [aZ s k hk];rfl
 have hq:=(hq.trans (by rw [hl,if_neg (by decide),hd,if_neg (by decide),if_pos h34]):cA (s.data.toList.drop k) k=jX (s.data.toList.drop k) k)
 have Hl:=aA hl;have Hd:=aA hd;have e34:((s[k].toNat:Int)==34)=true:=beq_iff_eq.2 (by omega);clear hl hd h34;have hn:(takeOut (s.data.toList.drop k)).2.1≤1000000:=by
  have:=Bu (s.data.toList.drop k);rw [List.length_drop,cB] at this;omega
 have hb:=sT (s.data.toList.drop k);conv at hq=>rhs;unfold jX
 have Ht:=aA (show takeOut (s.extract k s.size).data.toList=takeOut (s.data.toList.drop k) by rw [pE]);have hes:(s.extract k s.size).size≤1000000:=by rw [tJ s (Nat.le_refl _)];omega
 generalize takeOut (s.data.toList.drop k)=o at *
 obtain⟨x,n,e⟩:=o;simp only at hn hb hq;rcases hb with rfl | ⟨rfl,_,_⟩
 ·by_cases hx:256<x.length
  ·have H:=aA (hq.trans (by rw [if_pos rfl,if_pos hx]));clear hq;go_enter Tryz.func30,Tryz.ntmps30;go_wp2_with fail;refine (eY _ _).mono ?_;rintro e w0 ⟨rfl,hw⟩;rw [hw] at b0 S0;clear hw;rw [Hl.out];go_wp2_with fail;refine (fG _ _).mono ?_;rintro e w00 ⟨rfl,rfl⟩;rw [Hd.out];go_wp2_with fail;refine (qT _ hes _).mono ?_;rintro e w1 ⟨rfl,b2⟩;rw [Ht.out];have B2:=aA (aG b0.out (Nat.le_refl _) b2);have S2:=aA (dW S0.out b2);have⟨g0,c0,c1,c2,c3,f0,f1,f2,f3⟩:=S2.out;clear b2 b0 S0 Ht;go_wp2;rw [H.out];exact bodyPost_ret (mA rfl rfl (cF S2.out _ _ _ _)) rfl ⟨rfl,mW B2.out (Nat.le_refl _) _ _ _ _⟩
  ·have H:=aA (hq.trans (by rw [if_pos rfl,if_neg hx]));clear hq;go_enter Tryz.func30,Tryz.ntmps30;go_wp2_with fail;refine (eY _ _).mono ?_;rintro e w0 ⟨rfl,hw⟩;rw [hw] at b0 S0;clear hw;rw [Hl.out];go_wp2_with fail;refine (fG _ _).mono ?_;rintro e w00 ⟨rfl,rfl⟩;rw [Hd.out];go_wp2_with fail;refine (qT _ hes _).mono ?_;rintro e w1 ⟨rfl,b2⟩;rw [Ht.out];have B2:=aA (aG b0.out (Nat.le_refl _) b2);have S2:=aA (dW S0.out b2);have⟨g0,c0,c1,c2,c3,f0,f1,f2,f3⟩:=S2.out;clear b2 b0 S0 Ht;go_wp2;rw [H.out];exact bodyPost_ret (mA rfl rfl (cF S2.out _ _ _ _)) rfl ⟨rfl,mW B2.out (Nat.le_refl _) _ _ _ _⟩
 ·have H:=aA (hq.trans (by rw [if_neg (by decide)]));clear hq;go_enter Tryz.func30,Tryz.ntmps30;go_wp2_with fail;refine (eY _ _).mono ?_;rintro e w0 ⟨rfl,hw⟩;rw [hw] at b0 S0;clear hw;rw [Hl.out];go_wp2_with fail;refine (fG _ _).mono ?_;rintro e w00 ⟨rfl,rfl⟩;rw [Hd.out];go_wp2_with fail;refine (qT _ hes _).mono ?_;rintro e w1 ⟨rfl,b2⟩;rw [Ht.out];have B2:=aA (aG b0.out (Nat.le_refl _) b2);have S2:=aA (dW S0.out b2);have⟨g0,c0,c1,c2,c3,f0,f1,f2,f3⟩:=S2.out;clear b2 b0 S0 Ht;go_wp2;rw [H.out];exact bodyPost_ret (mA rfl rfl (cF S2.out _ _ _ _)) rfl ⟨rfl,mW B2.out (Nat.le_refl _) _ _ _ _⟩
theorem MX (l:List UInt8):(signL l).length≤2:=by
 have:∀ L:List (List UInt8),(∀ x∈L,x.length≤2)→∀ l,(fB L l).length≤2:=by
  intro L;induction L with
  | nil=>intro _ l;simp [fB]
  | cons x L ih=>
   intro hx l;unfold fB;split
   ·exact hx x (by simp)
   ·exact ih (fun y hy=>hx y (by simp [hy])) l
 exact this sgnL (by decide) _
theorem Jv (s:ByteArray) (hs:s.size≤1000000) (k:Nat) (hk:k<s.size) (hl:aW s[k].toNat=false) (hd:bA s[k].toNat=false) (h34:s[k].toNat≠34) (w:World) :
  Calls Tryz.prog 30 #[.string s,.int .i64 k] w fun e w'=>e=TokOut.ending (cA (s.data.toList.drop k) k)∧Below w.heap.size w w':=by
 have b0:=aA ((Below.refl w.heap.size w).alloc (Nat.le_refl _) (.cells #[.int .i64 0,.string ⟨#[]⟩,.int .i64 0,.int .i64 0] 58));have S0:=aA (lC w rfl 58);have hq:cA (s.data.toList.drop k) k=(if aW s[k].toNat then hD (s.data.toList.drop k) k else if bA s[k].toNat then iB (s.data.toList.drop k) k else if s[k].toNat=34 then jX (s.data.toList.drop k) k else kK (s.data.toList.drop k) k):=by
  rw [aZ s k hk];rfl
 have hq:=(hq.trans (by rw [hl,if_neg (by decide),hd,if_neg (by decide),if_neg h34]):cA (s.data.toList.drop k) k=kK (s.data.toList.drop k) k)
 have Hl:=aA hl;have Hd:=aA hd;have e34:((s[k].toNat:Int)==34)=false:=beq_eq_false_iff_ne.2 (by omega);clear hl hd h34;conv at hq=>rhs;unfold kK
 have h2:=MX (s.data.toList.drop k);generalize hx:signL (s.data.toList.drop k)=x at *
 have Hx:=aA hx;clear hx;by_cases hz:x=[]
 ·subst hz;have H:=aA (hq.trans (by rw [if_pos rfl]));clear hq;go_enter Tryz.func30,Tryz.ntmps30;go_wp2_with fail;refine (eY _ _).mono ?_;rintro e w0 ⟨rfl,hw⟩;rw [hw] at b0 S0;clear hw;rw [Hl.out];go_wp2_with fail;refine (fG _ _).mono ?_;rintro e w00 ⟨rfl,rfl⟩;rw [Hd.out];go_wp2_with fail;refine (vC s hs k (Nat.le_of_lt hk) _).mono ?_;rintro e w1 ⟨rfl,b2⟩;rw [Hx.out];have B2:=aA (aG b0.out (Nat.le_refl _) b2);have S2:=aA (dW S0.out b2);have⟨g0,c0,c1,c2,c3,f0,f1,f2,f3⟩:=S2.out;clear b2 b0 S0;go_wp2;rw [H.out];exact bodyPost_ret (mA rfl rfl (cF S2.out _ _ _ _)) rfl ⟨rfl,mW B2.out (Nat.le_refl _) _ _ _ _⟩
 ·have H:=aA (hq.trans (by rw [if_neg hz]));have Hz:x.isEmpty=false:=by
   cases x with
   | nil=>exact absurd rfl hz
   | cons=>rfl
  clear hq hz;go_enter Tryz.func30,Tryz.ntmps30;go_wp2_with fail;refine (eY _ _).mono ?_;rintro e w0 ⟨rfl,hw⟩;rw [hw] at b0 S0;clear hw;rw [Hl.out];go_wp2_with fail;refine (fG _ _).mono ?_;rintro e w00 ⟨rfl,rfl⟩;rw [Hd.out];go_wp2_with fail;refine (vC s hs k (Nat.le_of_lt hk) _).mono ?_;rintro e w1 ⟨rfl,b2⟩;rw [Hx.out];have B2:=aA (aG b0.out (Nat.le_refl _) b2);have S2:=aA (dW S0.out b2);have⟨g0,c0,c1,c2,c3,f0,f1,f2,f3⟩:=S2.out;clear b2 b0 S0;go_wp2;rw [H.out];exact bodyPost_ret (mA rfl rfl (cF S2.out _ _ _ _)) rfl ⟨rfl,mW B2.out (Nat.le_refl _) _ _ _ _⟩
theorem sE (s:ByteArray) (hs:s.size≤1000000) (k:Nat) (hk:k<s.size) (w:World) :
  Calls Tryz.prog 30 #[.string s,.int .i64 k] w fun e w'=>e=TokOut.ending (cA (s.data.toList.drop k) k)∧Below w.heap.size w w':=by
 cases hl:aW s[k].toNat with
 | true=>exact Gj s hs k hk hl w
 | false=>
  cases hd:bA s[k].toNat with
  | true=>exact Jt s hs k hk hl hd w
  | false=>
   by_cases h34:s[k].toNat=34
   ·exact Ju s hs k hk hl hd h34 w
   ·exact Jv s hs k hk hl hd h34 w
theorem Aj (s:ByteArray) (hs:s.size≤1000000) (w:World) :
  Calls Tryz.prog 16 #[.string s] w fun e w'=>∃ v,e=pF v (tokOut s)∧IF 58 w.heap.size v (tokOut s).1 w'∧Below w.heap.size w w':=by
 by_cases hlong:2000<s.size
 ·have H:=aA (show tokOut s=([],0,3) by unfold tokOut;rw [if_pos hlong]);go_enter Tryz.func16,Tryz.ntmps16;go_wp2;go_ret3
  exact⟨.slice none 0 0,by rw [H.out];rfl,by rw [H.out];exact qK _ _ _,Below.refl _ _⟩
 have hgo:tokOut s=jD s (s.size+1) (skipTo false s 0) []:=by unfold tokOut;rw [if_neg hlong]
 generalize tokOut s=out at *
 have hk0:=pA (f:=false) (s:=s) (k:=0) (Nat.zero_le _);generalize hk:skipTo false s 0=k0 at *
 have Hk:=aA hk;have HG:=aA hgo;clear hk hgo;go_enter Tryz.func16,Tryz.ntmps16;go_wp2_with fail;refine (vF s hs 0 (Nat.zero_le _) _).mono ?_;rintro e w1 ⟨rfl,rfl⟩;rw [Hk.out];clear Hk;go_wp2;go_loopw [5,6] (fun l i wr=>∃ (j f:Nat) (acc:List Tok),j≤s.size∧i=.int .i64 j∧acc.length≤600∧s.size<j+f∧out=jD s f j acc∧IF 58 w.heap.size l acc wr∧Below w.heap.size w wr) (fun _ i _=>s.size - (intOf i).toNat)
 case atStart=>exact⟨k0,s.size+1,[],hk0,rfl,by decide,by omega,HG.out,qK _ _ _,Below.refl _ _⟩
 case round=>
  clear HG;obtain⟨j,f,acc,hj,rfl,hacc,hf,hout,hrow,hbel⟩:=hrel;obtain⟨f,rfl⟩:∃ f',f=f'+1:=⟨f - 1,by omega⟩
  obtain⟨ao,cap,rfl⟩:=yP hrow;have R:=aA hrow;have B:=aA hbel;have hsz:w.heap.size≤wr.heap.size:=hbel.size;clear hrow hbel;by_cases hjl:j<s.size
  ·have hto:=fun h=>Om (s:=s) (k:=j) hj h
   have hbad:=fun he=>hout.trans (CT (acc:=acc) (f:=f) hjl rfl he)
   have hfull:=fun he hf=>hout.trans (vO (acc:=acc) (f:=f) hjl rfl he hf)
   have hmore:=fun he hf=>hout.trans (vP (acc:=acc) (f:=f) hjl rfl he hf)
   generalize ho:cA (s.data.toList.drop j) j=o at *
   obtain⟨⟨t0,t1,t2,t3⟩,n,er⟩:=o;have Ho:=aA ho;clear ho hout;simp only at hto hbad hfull hmore;rcases (show er=0∨er≠0 from by omega) with rfl | hne
   ·have hto1:=hto rfl;by_cases h600:acc.length=600
    ·have H:=aA (hfull rfl h600);have e6:((acc.length:Int)==600)=true:=beq_iff_eq.2 (by omega);clear hbad hfull hmore hto;go_wp2_with fail;refine (sE s hs j hjl _).mono ?_;rintro e w1 ⟨rfl,b1⟩;rw [Ho.out];have B1:=aA (aG B.out (Nat.le_refl _) b1);clear b1 R B;unfold TokOut.ending Tok.val;go_wp2;go_ret3
     exact⟨.slice none 0 0,by rw [H.out];rfl,by rw [H.out];exact qK _ _ _,B1.out.alloc B1.out.size _⟩
    ·have H:=aA (hmore rfl h600);have e6:((acc.length:Int)==600)=false:=beq_eq_false_iff_ne.2 (by omega);have hq1:=yA false s n;have hq2:=pA (f:=false) hto1.2;clear hbad hfull hmore hto;go_wp2_with fail;refine (sE s hs j hjl _).mono ?_;rintro e w1 ⟨rfl,b1⟩;rw [Ho.out];have b2:=(Below.refl w1.heap.size w1).alloc (Nat.le_refl _) (.cells #[.int .i64 t0,.string t1,.int .i64 t2,.int .i64 t3] 58);have B1:=aA (aG (aG B.out (Nat.le_refl _) b1) (Nat.le_refl _) b2);have R1:=aA (DV (DV R.out b1) b2);have hsz1:w.heap.size≤(w1.alloc (.cells #[.int .i64 t0,.string t1,.int .i64 t2,.int .i64 t3] 58)).heap.size:=B1.out.size;clear b1 b2 R B;unfold TokOut.ending Tok.val;go_wp2_with (at_builtin;refine JW rfl _ _ rfl w.heap.size acc ⟨t0,t1,t2,t3⟩ _ rfl _ (by rfl) R1.out _ (by rfl) (by simp) (by omega) hsz1 ?_)
     intro v' w2 R2 b2;have R3:=aA R2;have B3:=aA (B1.out.trans b2);clear R1 B1 R2 b2 hsz1;go_wp2_with fail;refine (vF s hs n hto1.2 _).mono ?_;rintro e w3 ⟨rfl,rfl⟩;generalize skipTo false s n=q at *
     go_wp2;go_roundw
     case rel=>exact⟨q,f,acc++[⟨t0,t1,t2,t3⟩],hq2,rfl,by simp;omega,by omega,H.out,R3.out,B3.out⟩
     case measure=>simp [intOf];omega
   ·have H:=aA (hbad hne);have en:(er != 0)=true:=by rw [bne_iff_ne];exact hne
    clear hbad hfull hmore hto;go_wp2_with fail;refine (sE s hs j hjl _).mono ?_;rintro e w1 ⟨rfl,b1⟩;rw [Ho.out];have B1:=aA (aG B.out (Nat.le_refl _) b1);clear b1 R B;unfold TokOut.ending Tok.val;go_wp2;go_ret3
    exact⟨.slice none 0 0,by rw [H.out];rfl,by rw [H.out];exact qK _ _ _,B1.out.alloc B1.out.size _⟩
  ·have H:=aA (hout.trans (yK (by omega)));clear hout;go_wp2_with (at_builtin;refine JW rfl _ _ rfl w.heap.size acc ⟨6,⟨#[]⟩,0,s.size⟩ _ rfl _ (by rfl) R.out _ (by rfl) (by simp) (by omega) hsz ?_)
   intro v' w2 R2 B2;go_wp2;go_ret3
   exact⟨v',by rw [H.out];rfl,by rw [H.out];exact R2,B.out.trans B2⟩
end Go.Proofs.YtdnnmjhfidimcaaGreatDoor
