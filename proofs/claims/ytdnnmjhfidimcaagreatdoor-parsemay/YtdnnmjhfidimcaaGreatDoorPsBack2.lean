/- A right tree comes back from its tokens: atoms, statements, programs. -/
import Derived.Test.YtdnnmjhfidimcaaGreatDoorJoint10
namespace Go.Proofs.YtdnnmjhfidimcaaGreatDoor
open Go.RowKit
theorem wX {ts:List Tok} {e:Nd} {b nc:Bool} (hf:Firsts ts) (h45:bZ ts [45]=false) (h33:bZ ts [33]=false) (h:∀ rest,Ev (fun f=>hH f (ts++rest)) (.ok e b rest)):Unit8 ts e b nc:=
 ⟨hf,h45,h33,fun rest res _ ht=>.up (h:=fun f=>(hH f (ts++rest)).bind fun e b l=>fB f e b l) (fun f=>by rw [kG]) (.bind (h rest) ht)⟩
/-! objects -/
theorem xU (ns:List ByteArray) (ks:List Nd) (rest:List Tok):Stop 1 (aK (fK ns (ks.map pcN))++(cY [125]::rest)):=by
 cases ns with
 | nil=>cases ks<;>exact eI (by simp)
 | cons s ns=>
  cases ks with
  | nil=>exact eI (by simp)
  | cons x ks=>
   have e:∃ q,aK (fK (s::ns) ((x::ks).map pcN))++(cY [125]::rest)=cY [44]::q:=by
    simp only [fK,List.map_cons,List.cons_append,gW];exact⟨_,rfl⟩
   obtain⟨q,e⟩:=e;rw [e];exact eI (by simp)
theorem xV {rest:List Tok} : ∀ (ns:List ByteArray) (ks:List Nd) (an:List ByteArray) (ak:List Nd),ks.length=ns.length→(∀ x∈ks,UnitAt 1 (aK (pcN x).e) (zN x) (oV x))→ak.length+ks.length≤40→
  Ev (fun f=>lW f an ak (aK (fK ns (ks.map pcN))++(cY [125]::rest))) (.ok (an++ns) (ak++ks.map zN) rest)
 | [],[],an,ak,_,_,_=>by
  refine .up (h:=fun _=>.ok an ak rest) (fun f=>?_) (by simpa using Ev.const (PL.ok an ak rest));rw [lW];have:bZ (aK (fK [] (([]:List Nd).map pcN))++(cY [125]::rest)) [44]=false:=rfl;rw [this,if_neg (by simp)];exact sM _ _ _
 | s::ns,x::ks,an,ak,hn,h,hl=>by
  have hx:=h x (by simp);have ih:=xV (rest:=rest) ns ks (an++[s]) (ak++[zN x]) (by simpa using hn) (fun y hy=>h y (by simp [hy])) (by simp at hl ⊢;omega);have e:aK (fK (s::ns) ((x::ks).map pcN))++(cY [125]::rest)=cY [44]::Bm s::cY [58]::(aK (pcN x).e++(aK (fK ns (ks.map pcN))++(cY [125]::rest))):=by
   simp only [fK,sF,List.map_cons,aZ,List.cons_append,gW,IP,jR,List.append_assoc]
  rw [e];have hw:=hx.whole (by omega) (xU ns ks rest);refine .up (h:=fun f=>kH f an ak (Bm s::cY [58]::(aK (pcN x).e++(aK (fK ns (ks.map pcN))++(cY [125]::rest))))) (fun f=>?_) ?_
  ·rw [lW,fM,if_pos ⟨by simp at hl;omega,by decide⟩];rfl
  ·refine .up (h:=fun f=>(aS f 1 (aK (pcN x).e++(aK (fK ns (ks.map pcN))++(cY [125]::rest)))).bindL fun e _ l=>lW f (an++[s]) (ak++[e]) l) (fun f=>?_) (.bindL hw (by simpa using ih));rw [kH,EL,sM]
 | [],x::ks,_,_,hn,_,_=>by simp at hn
 | s::ns,[],_,_,hn,_,_=>by simp at hn
theorem Nk {ns:List ByteArray} {ks:List Nd} (hn:ks.length=ns.length) (h40:ns.length≤40) (hk:∀ x∈ks,UnitAt 1 (aK (pcN x).e) (zN x) (oV x)):Unit8 (aK (wS ns (ks.map pcN))) (.mk 7 0 0 bz ns (ks.map zN) 0) false false:=by
 have h1:∃ q,aK (wS ns (ks.map pcN))=cY [123]::q:=by
  cases ns with
  | nil=>cases ks<;>exact⟨_,rfl⟩
  | cons s ns=>cases ks<;>exact⟨_,rfl⟩
 obtain⟨q,hq⟩:=h1;refine wX ⟨_,_,hq,by decide⟩ (by rw [hq,fM];rfl) (by rw [hq,fM];rfl) fun rest=>?_
 have key:Ev (fun f=>tO f (q++rest)) (.ok ns (ks.map zN) rest):=by
  cases ns with
  | nil=>
   have hk0:ks=[]:=List.length_eq_zero_iff.1 (by simpa using hn);subst hk0;have hq':q=[cY [125]]:=by have:aK (wS [] (([]:List Nd).map pcN))=[cY [123],cY [125]]:=rfl;rw [this] at hq;injection hq with _ h;exact h.symm
   subst hq';refine .up (h:=fun _=>.ok [] [] rest) (fun f=>?_) (.const _);rw [tO,List.cons_append,fM,if_pos (by decide)];rfl
  | cons s ns=>
   cases ks with
   | nil=>simp at hn
   | cons x ks=>
    have hx:=hk x (by simp);have hq':q=Bm s::cY [58]::(aK (pcN x).e++(aK (fK ns (ks.map pcN))++[cY [125]])):=by
     have:aK (wS (s::ns) ((x::ks).map pcN))=cY [123]::Bm s::cY [58]::(aK (pcN x).e++(aK (fK ns (ks.map pcN))++[cY [125]])):=by
      simp only [wS,sF,List.map_cons,aZ,List.cons_append,gW,IP,jR,nU,List.append_assoc]
     rw [this] at hq;injection hq with _ h;exact h.symm
    have ih:=xV (rest:=rest) ns ks [s] [zN x] (by simpa using hn) (fun y hy=>hk y (by simp [hy])) (by simp at hn h40 ⊢;omega);have hw:=hx.whole (by omega) (xU ns ks rest);have e:q++rest=Bm s::cY [58]::(aK (pcN x).e++(aK (fK ns (ks.map pcN))++(cY [125]::rest))):=by rw [hq'];simp
    rw [e];refine .up (h:=fun f=>kH f [] [] (Bm s::cY [58]::(aK (pcN x).e++(aK (fK ns (ks.map pcN))++(cY [125]::rest))))) (fun f=>?_) ?_
    ·rw [tO,Nc,Qk s _ (by decide)];rfl
    ·refine .up (h:=fun f=>(aS f 1 (aK (pcN x).e++(aK (fK ns (ks.map pcN))++(cY [125]::rest)))).bindL fun e _ l=>lW f ([]++[s]) ([]++[e]) l) (fun f=>?_) (.bindL hw (by simpa using ih));rw [kH,EL,sM]
 rw [hq];refine .up (h:=fun f=>(tO f (q++rest)).bind fun ns ks l=>.ok (.mk 7 0 0 bz ns ks 0) false l) (fun f=>?_) (.lbind key (.const _));rw [List.cons_append,hH];simp [cur,cY,bZ,gH]
/-! functions -/
theorem Cd {rest:List Tok} : ∀ (ns:List ByteArray) (s:ByteArray) (an:List ByteArray) (f:Nat),ns.length+1≤f→tX f an (CW s::(aK (mE ns)++(cY [41]::rest)))=.ok (an++s::ns) [] rest
 | [],s,an,f,hf=>by
  obtain⟨f,rfl⟩:∃ f',f=f'+1:=⟨f - 1,by simp at hf;omega⟩
  rw [tX,EM];have:bZ (aK (mE [])++(cY [41]::rest)) [44]=false:=rfl;rw [this,if_neg (by simp)];exact sM _ _ _
 | n::ns,s,an,f,hf=>by
  obtain⟨f,rfl⟩:∃ f',f=f'+1:=⟨f - 1,by simp at hf;omega⟩
  have e:aK (mE (n::ns))++(cY [41]::rest)=cY [44]::CW n::(aK (mE ns)++(cY [41]::rest)):=by
   simp only [mE,List.flatMap_cons,List.cons_append,gW,jR,Ng,List.nil_append]
  rw [tX,EM,e,fM,if_pos ⟨by simp at hf;omega,by decide⟩];show tX f (an++[s]) (CW n::(aK (mE ns)++(cY [41]::rest)))=_;rw [Cd ns n (an++[s]) f (by simp at hf;omega)];simp
theorem Nl {ns:List ByteArray} (h:ns.length≤6) (rest:List Tok):rC (aK (nO ns)++(cY [41]::rest))=.ok ns [] rest:=by
 unfold rC;cases ns with
 | nil=>
  have:bZ (aK (nO [])++(cY [41]::rest)) [41]=true:=rfl;rw [this,if_pos rfl];rfl
 | cons s ns=>
  have e:aK (nO (s::ns))++(cY [41]::rest)=CW s::(aK (mE ns)++(cY [41]::rest)):=rfl;rw [e,Qj,if_neg (by simp),Cd ns s [] 6 (by simp at h;omega)];rfl
/-! statements -/
def GY (t:Tok):Bool:=sN t||[[108,101,116],[112,114,105,110,116],[114,101,116,117,114,110],[100,101,108,101,116,101],[105,102],[119,104,105,108,101]].any (gH t)
def FirstsS (ts:List Tok):Prop:=∃ t r,ts=t::r∧GY t=true
theorem FirstsS.ofE {ts:List Tok} (h:Firsts ts):FirstsS ts:=by
 obtain⟨t,r,e,h1⟩:=h;exact⟨t,r,e,by unfold GY;rw [h1];rfl⟩
theorem FirstsS.app {a b:List Tok} (h:FirstsS a):FirstsS (a++b):=by
 obtain⟨t,r,e,h1⟩:=h;exact⟨t,r++b,by rw [e];rfl,h1⟩
theorem FirstsS.not {l:List Tok} (h:FirstsS l):bZ l [125]=false∧bZ l [101,108,115,101]=false∧(cur l).kind≠6:=by
 obtain⟨t,r,rfl,h1⟩:=h;unfold GY at h1;rw [Bool.or_eq_true] at h1;rcases h1 with h1 | h1
 ·exact⟨wW h1 (by decide),wW h1 (by decide),AB h1⟩
 ·rw [List.any_eq_true] at h1;obtain⟨x,hx,ht⟩:=h1;refine⟨Df ht ?_,Df ht ?_,?_⟩
  ·simp only [List.mem_cons,List.not_mem_nil,or_false] at hx;rcases hx with rfl | rfl | rfl | rfl | rfl | rfl<;>rfl
  ·simp only [List.mem_cons,List.not_mem_nil,or_false] at hx;rcases hx with rfl | rfl | rfl | rfl | rfl | rfl<;>rfl
  ·intro e;have e':t.kind=6:=e;unfold gH at ht;rw [e'] at ht;cases ht
def AC (x:Nd):Prop:=FirstsS (aK (pcN x).s)∧∀ rest,bZ rest [101,108,115,101]=false→Ev (fun f=>kI f (aK (pcN x).s++rest)) (.ok (zN x) false rest)
def Pw (x:Nd):Prop:=(pcN x).has=(!(zN x).kids.isEmpty)∧∀ rest,Ev (fun f=>dY f (aK (pcN x).b++rest)) (.ok (zN x) false rest)
theorem pM {rest:List Tok} (he:bZ rest [101,108,115,101]=false):∀ (ks:List Nd) (acc:List Nd),(∀ x∈ks,AC x)→acc.length+ks.length≤40→∀ res,Ev (fun f=>eG f (acc++ks.map zN) rest) res→
  Ev (fun f=>eG f acc (aK (fC (ks.map pcN))++rest)) res
 | [],acc,_,_,res,h=>by simpa [fC,nU] using h
 | x::ks,acc,h,hl,res,hr=>by
  obtain⟨hf,hx⟩:=h x (by simp);have ih:=pM he ks (acc++[zN x]) (fun y hy=>h y (by simp [hy])) (by simp at hl ⊢;omega) res (by simpa using hr);have e:aK (fC ((x::ks).map pcN))++rest=aK (pcN x).s++(aK (fC (ks.map pcN))++rest):=by
   simp only [fC,List.map_cons,List.flatMap_cons,aZ,List.cons_append,jR,List.append_assoc]
  have hst:bZ (aK (fC (ks.map pcN))++rest) [101,108,115,101]=false:=by
   cases ks with
   | nil=>exact he
   | cons y r=>
    have e2:aK (fC ((y::r).map pcN))++rest=aK (pcN y).s++(aK (fC (r.map pcN))++rest):=by
     simp only [fC,List.map_cons,List.flatMap_cons,aZ,List.cons_append,jR,List.append_assoc]
    rw [e2];exact ((h y (by simp)).1.app).not.2.1
  rw [e];have hn:=(hf.app (b:=aK (fC (ks.map pcN))++rest)).not;refine .up (h:=fun f=>(kI f (aK (pcN x).s++(aK (fC (ks.map pcN))++rest))).bindL fun e _ l=>eG f (acc++[e]) l) (fun f=>?_) (.bindL (hx _ hst) ih);rw [eG,if_pos ⟨by simp at hl;omega,hn.1,hn.2.2⟩]
theorem Ce {ks:List Nd} (h:∀ x∈ks,AC x) (hl:ks.length≤40) (rest:List Tok):Ev (fun f=>dY f (aK (blockC (ks.map pcN))++rest)) (.ok (hJ 29 (ks.map zN)) false rest):=by
 have e:aK (blockC (ks.map pcN))++rest=cY [123]::(aK (fC (ks.map pcN))++(cY [125]::rest)):=by
  unfold blockC;rw [gW,aZ];cases ks<;>simp [gW,jR,nU]
 rw [e];have h1:Ev (fun f=>eG f (ks.map zN) (cY [125]::rest)) (.ok [] (ks.map zN) (cY [125]::rest)):=by
  refine .up (h:=fun _=>.ok [] (ks.map zN) (cY [125]::rest)) (fun f=>?_) (.const _);rw [eG,fM,if_neg (by simp)]
 have h2:=pM (rest:=cY [125]::rest) (by rw [fM];rfl) ks [] h (by simpa using hl) _ h1;refine .up (h:=fun f=>(eG f [] (aK (fC (ks.map pcN))++(cY [125]::rest))).bind fun _ ks l=>must [125] l fun l=>.ok (hJ 29 ks) false l) (fun f=>by rw [dY,kQ]) (.lbind h2 ?_);exact .of (fun f=>kQ _ _ _) (.const _)
theorem OJ {ns:List ByteArray} {ks:List Nd} (h6:ns.length≤6) (hl:ks.length≤40) (hk:∀ x∈ks,AC x):Unit8 (aK (kw [102,110]::sg [40]::(nO ns++(sg [41] :: .bl::blockC (ks.map pcN))))) (.mk 8 0 0 bz ns (ks.map zN) 0) false false:=by
 have e:aK (kw [102,110]::sg [40]::(nO ns++(sg [41] :: .bl::blockC (ks.map pcN))))=rH [102,110]::cY [40]::(aK (nO ns)++(cY [41]::aK (blockC (ks.map pcN)))):=by
  rw [tU,gW,aZ,gW,jR]
 rw [e];refine wX ⟨_,_,rfl,by decide⟩ (by rw [kY];rfl) (by rw [kY];rfl) fun rest=>?_
 have hb:=Ce hk hl rest;refine .up (h:=fun f=>(dY f (aK (blockC (ks.map pcN))++rest)).bind fun b _ l'=>.ok (.mk 8 0 0 bz ns b.kids 0) false l') (fun f=>?_) (.bind hb (.const _));rw [List.cons_append,hH];have hc:(cur (rH [102,110]::(cY [40]::(aK (nO ns)++(cY [41]::aK (blockC (ks.map pcN))))++rest))).kind=2:=rfl;have hp:(cur (rH [102,110]::(cY [40]::(aK (nO ns)++(cY [41]::aK (blockC (ks.map pcN))))++rest))).pl=0:=rfl;rw [hc,hp];simp only [kY];rw [if_neg (by decide),if_neg (by decide),if_neg (by decide),if_neg (by decide),if_neg (by decide),if_neg (by decide),if_neg (by decide),if_neg (by decide),if_neg (by decide),if_pos (by decide)];show must [40] (cY [40]::((aK (nO ns)++(cY [41]::aK (blockC (ks.map pcN))))++rest)) _=_;rw [kQ];have e2:(aK (nO ns)++(cY [41]::aK (blockC (ks.map pcN))))++rest=aK (nO ns)++(cY [41]::(aK (blockC (ks.map pcN))++rest)):=by simp
 rw [e2,Nl h6,PL.bind_ok]
theorem AD {o:Int} (h:1≤o∧o≤7) (l:List Tok) :
  sN (rH (builtT o).1)=true∧gH (rH (builtT o).1) [45]=false∧gH (rH (builtT o).1) [33]=false∧nS (rH (builtT o).1::l)=some o∧
  [[110,117,108,108],[116,114,117,101],[102,97,108,115,101],[116,104,105,115],[40],[123],[102,110]].all (fun x=>!bZ (rH (builtT o).1::l) x)=true∧((builtT o).2=1∨(builtT o).2=2):=by
 obtain rfl | rfl | rfl | rfl | rfl | rfl | rfl:o=1∨o=2∨o=3∨o=4∨o=5∨o=6∨o=7:=by omega
 all_goals exact⟨by decide,by decide,by decide,rfl,rfl,by decide⟩
theorem GZ {o:Int} (ho:1≤o∧o≤7) {ks:List Nd} (hc:ks.length=(builtT o).2) (hk:∀ x∈ks,UnitAt 1 (aK (pcN x).e) (zN x) (oV x)):Unit8 (aK (kw (builtT o).1::kU (ks.map pcN))) (gK 17 o (ks.map zN)) false false:=by
 obtain⟨b1,b2,b3,_,_,b6⟩:=AD ho [];rw [tU];refine wX ⟨_,_,rfl,b1⟩ b2 b3 fun rest=>?_
 obtain⟨_,_,_,b4,b5,_⟩:=AD ho (aK (kU (ks.map pcN))++rest);simp only [List.all_cons,List.all_nil,Bool.and_eq_true,Bool.not_eq_true'] at b5;obtain⟨n1,n2,n3,n4,n5,n6,n7,_⟩:=b5;have head:∀ f,hH (f+1) (rH (builtT o).1::aK (kU (ks.map pcN))++rest)=must [40] (aK (kU (ks.map pcN))++rest) fun l=>(aS f 1 l).bind fun e _ l=>
     if (builtT o).2=2 then must [44] l fun l=>(aS f 1 l).bind fun e' _ l=>must [41] l fun l=>.ok (gK 17 o [e,e']) false l
     else must [41] l fun l=>.ok (gK 17 o [e]) false l:=by
  intro f;rw [List.cons_append,hH];have hcur:(cur (rH (builtT o).1::(aK (kU (ks.map pcN))++rest))).kind=2:=rfl;rw [hcur,n1,n2,n3,n4,n5,n6,n7,b4,if_neg (by decide),if_neg (by decide),if_neg (by decide)];rfl
 refine .up head ?_;have e:aK (kU (ks.map pcN))++rest=cY [40]::(aK (mM (ks.map pcN))++(cY [41]::rest)):=by
  unfold kU;rw [gW,aZ];simp [gW,nU]
 rw [e];refine .of (fun f=>kQ _ _ _) ?_;rcases b6 with b6 | b6
 ·rw [b6] at hc;obtain⟨x,rfl⟩:=List.length_eq_one_iff.1 hc;have hw:=(hk x (by simp)).whole (by omega) (rest:=cY [41]::rest) (eI (by simp));have e2:aK (mM ([x].map pcN))++(cY [41]::rest)=aK (pcN x).e++(cY [41]::rest):=by simp [mM,fJ]
  rw [e2];refine .bind hw (.of (fun f=>?_) (.const _));rw [b6,if_neg (by decide),kQ];rfl
 ·rw [b6] at hc;obtain⟨x,y,rfl⟩:=pD hc;have hx:=hk x (by simp);have hy:=hk y (by simp);have hw:=hx.whole (by omega) (rest:=cY [44]::(aK (pcN y).e++(cY [41]::rest))) (eI (by simp));have hv:=hy.whole (by omega) (rest:=cY [41]::rest) (eI (by simp));have e2:aK (mM ([x,y].map pcN))++(cY [41]::rest)=aK (pcN x).e++(cY [44]::(aK (pcN y).e++(cY [41]::rest))):=by
   simp only [mM,fJ,List.map_cons,List.map_nil,List.flatMap_cons,List.flatMap_nil,List.append_nil,aZ,gW,jR,List.append_assoc,List.cons_append]
  rw [e2];refine .bind hw ?_;refine .of (h:=fun f=>(aS f 1 (aK (pcN y).e++(cY [41]::rest))).bind fun e' _ l=>must [41] l fun l=>.ok (gK 17 o [zN x,e']) false l) (fun f=>?_) (.bind hv (.of (fun f=>kQ _ _ _) (.const _)));rw [b6,if_pos rfl,kQ]
theorem vT {ks:List Nd} (h:∀ x∈ks,Rt 1 x) (hb:∀ x∈ks,BackE x):∀ x∈ks,UnitAt 1 (aK (pcN x).e) (zN x) (oV x):=fun x hx=>(hb x hx).one (eX (h x hx))
theorem AE {s:ByteArray} {x:Nd} (hx:Rt 1 x) (ix:BackE x):Unit8 (aK (sG (pcN x) s)) (tN 13 s [zN x]) true true:=by
 obtain⟨b,u⟩:=pI ix (eX hx) 8 (by omega);unfold sG;rw [aZ,gW,IP,nU];exact Nj u s
theorem uN {x y:Nd} (hx:Rt 1 x) (hy:Rt 1 y) (ix:BackE x) (iy:BackE y) (nd:Bool):Unit8 (aK (mF (pcN x) (pcN y))) (hJ 14 [zN x,zN y]) true nd:=by
 obtain⟨b,u⟩:=pI ix (eX hx) 8 (by omega);unfold mF;rw [aZ,gW,aZ,gW,nU];exact GX u (iy.one (eX hy))
theorem OK (l:List Tok):Stop 1 (cY [61]::l):=by
 refine⟨⟨rfl,rfl,rfl⟩,fun r' _=>?_⟩;unfold lP zD;split<;>rfl
theorem lF {ts:List Tok} {e:Nd} (h1:bZ ts [105,102]=false) (h2:bZ ts [119,104,105,108,101]=false) {rest:List Tok} (h:Ev (fun f=>iK f ts) (.ok e false (cY [59]::rest))):Ev (fun f=>kI f ts) (.ok e false rest):=by
 refine .up (h:=fun f=>(iK f ts).bind fun e _ l=>must [59] l fun l=>.ok e false l) (fun f=>?_) (.bind h (.of (fun f=>kQ _ _ _) (.const _)));rw [kI,h1,h2];rfl
theorem Bn {ts rest:List Tok} {e:Nd} {b:Bool} (hf:Firsts ts) (h:UnitAt 1 ts e b):Ev (fun f=>iK f (ts++(cY [59]::rest))) (.ok (hJ 32 [e]) false (cY [59]::rest)):=by
 have hw:=h.whole (by omega) (rest:=cY [59]::rest) (eI (by simp));have hn:=fun x hx=>(hf.app (b:=cY [59]::rest)).not (x:=x) hx
 refine .up (h:=fun f=>(aS f 1 (ts++(cY [59]::rest))).bind fun e b l=>if b=true∧bZ l [61]=true then (aS f 1 l.tail).bind fun v _ l=>.ok (becomeN e v) false l else .ok (hJ 32 [e]) false l) (fun f=>?_) (.bind hw (.of (fun f=>?_) (.const _)))
 ·rw [iK,hn _ (by decide),hn _ (by decide),hn _ (by decide),hn _ (by decide)];rfl
 ·rw [fM,if_neg (by intro h;exact absurd h.2 (by decide))]
theorem Dh {ts tv rest:List Tok} {e v:Nd} {b:Bool} (hf:Firsts ts) (h:UnitAt 1 ts e true) (hv:UnitAt 1 tv v b):Ev (fun f=>iK f (ts++(cY [61]::(tv++(cY [59]::rest))))) (.ok (becomeN e v) false (cY [59]::rest)):=by
 have hw:=h.whole (by omega) (rest:=cY [61]::(tv++(cY [59]::rest))) (OK _);have hw2:=hv.whole (by omega) (rest:=cY [59]::rest) (eI (by simp));have hn:=fun x hx=>(hf.app (b:=cY [61]::(tv++(cY [59]::rest)))).not (x:=x) hx
 refine .up (h:=fun f=>(aS f 1 (ts++(cY [61]::(tv++(cY [59]::rest))))).bind fun e b l=>if b=true∧bZ l [61]=true then (aS f 1 l.tail).bind fun v _ l=>.ok (becomeN e v) false l else .ok (hJ 32 [e]) false l) (fun f=>?_) (.bind hw ?_)
 ·rw [iK,hn _ (by decide),hn _ (by decide),hn _ (by decide),hn _ (by decide)];rfl
 ·refine .of (h:=fun f=>(aS f 1 (tv++(cY [59]::rest))).bind fun v _ l=>.ok (becomeN e v) false l) (fun f=>?_) (.bind hw2 (.const _));rw [fM,if_pos ⟨rfl,by decide⟩];rfl
theorem oG (x:Px) (R:List Pc):aK (gV x++R)=cY [61]::(aK x.e++aK R):=by
 unfold gV;rw [List.cons_append,List.cons_append,List.cons_append,jR,gW,jR,aZ]
theorem sO {ts:List Tok} {e:Nd} (h:UnitAt 1 ts e true) {v:Nd} (hv:UnitAt 1 (aK (pcN v).e) (zN v) (oV v)) {x:Nd} (ht:aK (pcN x).s=ts++(cY [61]::(aK (pcN v).e++[cY [59]]))) (hz:becomeN e (zN v)=zN x):AC x:=by
 have hf:=h.1;refine⟨by rw [ht];exact .ofE hf.app,fun rest _=>?_⟩;rw [ht,← hz];have e2:ts++(cY [61]::(aK (pcN v).e++[cY [59]]))++rest=ts++(cY [61]::(aK (pcN v).e++(cY [59]::rest))):=by simp
 rw [e2];exact lF (hf.app.not (by decide)) (hf.app.not (by decide)) (Dh hf h hv)
theorem Cf {key:List UInt8} {k:Int} (hk:key=[112,114,105,110,116]∧k=27∨key=[114,101,116,117,114,110]∧k=31) {ts rest:List Tok} {e:Nd} {b:Bool} (h:UnitAt 1 ts e b) :
  Ev (fun f=>kI f (rH key::(ts++(cY [59]::rest)))) (.ok (hJ k [e]) false rest):=by
 have hw:=h.whole (by omega) (rest:=cY [59]::rest) (eI (by simp));refine lF (by rw [kY];rcases hk with ⟨rfl,_⟩ | ⟨rfl,_⟩<;>rfl) (by rw [kY];rcases hk with ⟨rfl,_⟩ | ⟨rfl,_⟩<;>rfl) ?_;refine .up (h:=fun f=>(aS f 1 (ts++(cY [59]::rest))).bind fun e _ l=>.ok (hJ k [e]) false l) (fun f=>?_) (.bind hw (.const _));rw [iK];rcases hk with ⟨rfl,rfl⟩ | ⟨rfl,rfl⟩<;>simp only [kY]<;>rfl
theorem EP {ts rest:List Tok} {e:Nd} {nc:Bool} (h:Unit8 ts e true nc) (h5:e.kind≠5):Ev (fun f=>kI f (rH [100,101,108,101,116,101]::(ts++(cY [59]::rest)))) (.ok (if e.kind=13 then tN 25 e.str e.kids else hJ 26 e.kids) false rest):=by
 refine lF (by rw [kY];rfl) (by rw [kY];rfl) ?_;have hp:Ev (fun f=>kG f (ts++(cY [59]::rest))) (.ok e true (cY [59]::rest)):=h.2.2.2 _ _ (fun _=>by rw [fM];rfl) (Ca (eI (c:=59) (by simp)).1);refine .up (h:=fun f=>(kG f (ts++(cY [59]::rest))).bind fun e b l=>if b=true∧e.kind≠5 then .ok (if e.kind=13 then tN 25 e.str e.kids else hJ 26 e.kids) false l else .bad l) (fun f=>?_) (.bind hp (.of (fun f=>?_) (.const _)))
 ·rw [iK];simp only [kY];rfl
 ·rw [if_pos ⟨rfl,h5⟩]
theorem IQ {ts rest:List Tok} {e:Nd} {b:Bool} (h:UnitAt 1 ts e b):Ev (fun f=>mS f (cY [40]::(ts++(cY [41]::rest)))) (.ok e false rest):=by
 have hw:=h.whole (by omega) (rest:=cY [41]::rest) (eI (by simp));exact .up (h:=fun f=>(aS f 1 (ts++(cY [41]::rest))).bind fun e _ l=>must [41] l fun l=>.ok e false l) (fun f=>by rw [mS,kQ]) (.bind hw (.of (fun f=>kQ _ _ _) (.const _)))
def IR (a:Nat) (t:Nd):Prop:=(a=1→BackE t)∧(a=2→AC t)∧(a=3→Pw t)
theorem mO {t:Nd} (h:BackE t):IR 1 t:=⟨fun _=>h,fun h=>(by cases h),fun h=>(by cases h)⟩
theorem sP {t:Nd} (h:AC t):IR 2 t:=⟨fun h=>(by cases h),fun _=>h,fun h=>(by cases h)⟩
theorem QD {t:Nd} (h:Pw t):IR 3 t:=⟨fun h=>(by cases h),fun h=>(by cases h),fun _=>h⟩
theorem OL {a:Nat} {t:Nd} (h:Rt a t):IR a t:=by
 induction h with
 | null p=>exact mO (iH (lT (t:=rH [110,117,108,108]) (by decide) (by decide) (by decide) fun f rest=>by rw [hH];rfl) (by simp only [gE,Nd.kind,Nd.op];decide))
 | bool n p hn=>
  rcases hn with rfl | rfl
  ·exact mO (iH (lT (t:=rH [102,97,108,115,101]) (by decide) (by decide) (by decide) fun f rest=>by rw [hH];rfl) (by simp only [gE,Nd.kind,Nd.op];decide))
  ·exact mO (iH (lT (t:=rH [116,114,117,101]) (by decide) (by decide) (by decide) fun f rest=>by rw [hH];rfl) (by simp only [gE,Nd.kind,Nd.op];decide))
 | int n p hn=>exact mO (iH (lT (t:=⟨3,⟨(digs n).toArray⟩,n,0⟩) rfl rfl rfl fun f rest=>by rw [hH];rfl) (by simp only [gE,Nd.kind,Nd.op];decide))
 | str s p hs=>exact mO (iH (lT (t:=⟨4,s,0,0⟩) rfl rfl rfl fun f rest=>by rw [hH];rfl) (by simp only [gE,Nd.kind,Nd.op];decide))
 | name s p hs=>exact mO (iH (lT (t:=CW s) rfl rfl rfl fun f rest=>by rw [hH];rfl) (by simp only [gE,Nd.kind,Nd.op];decide))
 | this p=>exact mO (iH (lT (t:=rH [116,104,105,115]) (by decide) (by decide) (by decide) fun f rest=>by rw [hH];rfl) (by simp only [gE,Nd.kind,Nd.op];decide))
 | obj ns ks p hl hm hns hk ih=>
  refine mO (iH ?_ (by simp only [gE,Nd.kind,Nd.op];decide));rw [fO,cI];exact Nk hl hm (vT hk fun x hx=>(ih x hx).1 rfl)
 | fn ns ks p hm hns hc hk ih=>
  refine mO (iH ?_ (by simp only [gE,Nd.kind,Nd.op];decide));rw [fO,cI];exact OJ hm hc fun x hx=>(ih x hx).2.1 rfl
 | un o x p ho hx ix=>
  have hr:gE (.mk 9 o 0 bz [] [x] p)=7:=by simp only [gE,Nd.kind,Nd.op,rankT];rfl
  refine mO (yQ (by omega) ?_);rw [hr,fO,cI];obtain⟨b,u⟩:=uM (ix.1 rfl) (eX hx) (r:=7) (by omega);have hu:=u.2;rw [if_neg (by omega)] at hu;rcases ho with rfl | rfl
  ·refine⟨⟨cY [45],_,rfl,by decide⟩,?_⟩;rw [if_neg (by omega)];intro rest hrest;refine .up (h:=fun f=>(aS f 7 (aK (iG (pcN x) ((7:Nat):Int))++rest)).bind fun e _ l=>.ok (gK 9 1 [e]) false l) (fun f=>?_) (.bind (hu rest hrest) (.const _));show aS (f+1) 7 (cY [45]::(aK (iG (pcN x) ((7:Nat):Int))++rest))=_;rw [aS,fM];rfl
  ·refine⟨⟨cY [33],_,rfl,by decide⟩,?_⟩;rw [if_neg (by omega)];intro rest hrest;refine .up (h:=fun f=>(aS f 7 (aK (iG (pcN x) ((7:Nat):Int))++rest)).bind fun e _ l=>.ok (gK 9 2 [e]) false l) (fun f=>?_) (.bind (hu rest hrest) (.const _));show aS (f+1) 7 (cY [33]::(aK (iG (pcN x) ((7:Nat):Int))++rest))=_;rw [aS,fM,fM];rfl
 | bin o x y p ho hx hy ix iy=>
  obtain⟨r,e,r3,r6,_,_⟩:=Cb ho [];have hr:gE (.mk 10 o 0 bz [] [x,y] p)=r:=by simp only [gE,Nd.kind,Nd.op,e];omega
  refine mO (yQ (by omega) ?_);rw [hr,fO,cI];show UnitAt r (aK (lE (rankT 10 o) (signT o) (pcN x) (pcN y))) (gK 10 o [zN x,zN y]) false;rw [e];refine qW (by omega) r6 (fun l=>?_) (ix.1 rfl) (iy.1 rfl) (eX hx) (eX hy);obtain⟨r',e',_,_,h3,h4⟩:=Cb ho l;have:r'=r:=by omega
  subst this;exact⟨h3,h4⟩
 | and x y p hx hy ix iy=>
  refine mO (yQ (by simp only [gE,Nd.kind,Nd.op];decide) ?_);rw [fO,cI];exact qW (r:=2) (by omega) (by omega) Ni (ix.1 rfl) (iy.1 rfl) (eX hx) (eX hy)
 | or x y p hx hy ix iy=>
  refine mO (yQ (by simp only [gE,Nd.kind,Nd.op];decide) ?_);rw [fO,cI];exact qW (r:=1) (by omega) (by omega) OI (ix.1 rfl) (iy.1 rfl) (eX hx) (eX hy)
 | get s x p hs hx ix=>
  refine mO (iH ?_ (by simp only [gE,Nd.kind,Nd.op];decide));rw [fO,cI];exact AE hx (ix.1 rfl)
 | index x y p hx hy ix iy=>
  refine mO (iH ?_ (by simp only [gE,Nd.kind,Nd.op];decide));rw [fO,cI];exact uN hx hy (ix.1 rfl) (iy.1 rfl) _
 | call x ks p hc hx hk ix ik=>
  refine mO (iH ?_ (by simp only [gE,Nd.kind,Nd.op];decide));rw [fO,cI];show Unit8 (aK (iG (pcN x) (if (pcN x).kind=13 then 9 else 8)++kU (ks.map pcN))) (hJ 15 (zN x::ks.map zN)) false false;rw [aZ,Nh];obtain⟨b,u⟩:=pI (ix.1 rfl) (eX hx) (if x.kind=13 then 9 else 8) (by split<;>omega);have hnc:decide (x.kind=13∧(if x.kind=13 then (9:Int) else 8)≤rankT x.kind x.op)=false:=by
   rw [decide_eq_false_iff_not];rintro⟨h1,h2⟩;rw [h1] at h2;simp [rankT] at h2
  rw [hnc] at u;exact Lg u (vT hk fun x hx=>(ik x hx).1 rfl) hc
 | meth s x ks p hs hc hx hk ix ik=>
  refine mO (iH ?_ (by simp only [gE,Nd.kind,Nd.op];decide));rw [fO,cI];show Unit8 (aK (sG (pcN x) s++kU (ks.map pcN))) (tN 16 s (zN x::ks.map zN)) false false;obtain⟨b,u⟩:=pI (ix.1 rfl) (eX hx) 8 (by omega);have:=Lh u s (vT hk fun x hx=>(ik x hx).1 rfl) hc;unfold sG;rw [aZ,aZ,gW,IP,nU,List.append_assoc];exact this
 | built o ks p ho hc hk ik=>
  refine mO (iH ?_ (by simp [gE,Nd.kind,rankT]));rw [fO,cI];exact GZ ho hc (vT hk fun x hx=>(ik x hx).1 rfl)
 | slet s x p hs hx ix=>
  refine sP ⟨⟨rH [108,101,116],_,rfl,by decide⟩,fun rest _=>?_⟩;rw [fO,cI];have hv:=(ix.1 rfl).one (eX hx);have hw:=hv.whole (by omega) (rest:=cY [59]::rest) (eI (by simp));have e:aK (stmtC 21 s ([x].map pcN))++rest=rH [108,101,116]::CW s::cY [61]::(aK (pcN x).e++(cY [59]::rest)):=by
   show aK (kw [108,101,116] :: .bl::nm s::(gV (pcN x)++[sg [59]]))++rest=_;rw [tU,jR,Ng,oG,gW,nU];simp
  rw [e];refine lF (by rw [kY];rfl) (by rw [kY];rfl) ?_;refine .up (h:=fun f=>(aS f 1 (aK (pcN x).e++(cY [59]::rest))).bind fun e _ l'=>.ok (.mk 21 0 0 s [] [e] 0) false l') (fun f=>?_) (.bind hw (.const _));rw [iK,kY,if_pos (by decide)];show kF false (CW s::cY [61]::(aK (pcN x).e++(cY [59]::rest))) _=_;rw [Nf,kQ];rfl
 | assign s x p hs hx ix=>
  have hn:BackE (.mk 5 0 0 s [] [] p):=iH (lT (t:=CW s) rfl rfl rfl fun f rest=>by rw [hH];rfl) (by simp only [gE,Nd.kind,Nd.op];decide);refine sP (sO (ts:=[CW s]) (e:=.mk 5 0 0 s [] [] 0) (hn.one (by simp only [gE,Nd.kind,Nd.op];decide)) ((ix.1 rfl).one (eX hx)) ?_ ?_)
  ·rw [cI];show aK (nm s::(gV (pcN x)++[sg [59]]))=_;rw [Ng,oG];rfl
  ·rw [fO];rfl
 | set s x y p hs hx hy ix iy=>
  have hg:=AE (s:=s) hx (ix.1 rfl);refine sP (sO (hg.at7.to (by omega) (by omega)) ((iy.1 rfl).one (eX hy)) ?_ ?_)
  ·rw [cI];show aK (sG (pcN x) s++gV (pcN y)++[sg [59]])=_;rw [List.append_assoc,aZ,oG];rfl
  ·rw [fO];rfl
 | setix x y z p hx hy hz ix iy iz=>
  have hg:=uN hx hy (ix.1 rfl) (iy.1 rfl) false;refine sP (sO (hg.at7.to (by omega) (by omega)) ((iz.1 rfl).one (eX hz)) ?_ ?_)
  ·rw [cI];show aK (mF (pcN x) (pcN y)++gV (pcN z)++[sg [59]])=_;rw [List.append_assoc,aZ,oG];rfl
  ·rw [fO];rfl
 | del s x p hs hx ix=>
  refine sP ⟨⟨rH [100,101,108,101,116,101],_,rfl,by decide⟩,fun rest _=>?_⟩;rw [fO,cI];have e:aK (stmtC 25 s ([x].map pcN))++rest=rH [100,101,108,101,116,101]::(aK (sG (pcN x) s)++(cY [59]::rest)):=by
   show aK (kw [100,101,108,101,116,101] :: .bl::(sG (pcN x) s++[sg [59]]))++rest=_;rw [tU,jR,aZ,gW,nU];simp
  rw [e];exact EP (AE hx (ix.1 rfl)) (by simp [tN,Nd.kind])
 | delix x y p hx hy ix iy=>
  refine sP ⟨⟨rH [100,101,108,101,116,101],_,rfl,by decide⟩,fun rest _=>?_⟩;rw [fO,cI];have e:aK (stmtC 26 bz ([x,y].map pcN))++rest=rH [100,101,108,101,116,101]::(aK (mF (pcN x) (pcN y))++(cY [59]::rest)):=by
   show aK (kw [100,101,108,101,116,101] :: .bl::(mF (pcN x) (pcN y)++[sg [59]]))++rest=_;rw [tU,jR,aZ,gW,nU];simp
  rw [e];exact EP (uN hx hy (ix.1 rfl) (iy.1 rfl) false) (by simp [hJ,Nd.kind])
 | print x p hx ix=>
  refine sP ⟨⟨rH [112,114,105,110,116],_,rfl,by decide⟩,fun rest _=>?_⟩;rw [fO,cI];have e:aK (stmtC 27 bz ([x].map pcN))++rest=rH [112,114,105,110,116]::(aK (pcN x).e++(cY [59]::rest)):=by
   show aK (kw [112,114,105,110,116] :: .bl::((pcN x).e++[sg [59]]))++rest=_;rw [tU,jR,aZ,gW,nU];simp
  rw [e];exact Cf (.inl ⟨rfl,rfl⟩) ((ix.1 rfl).one (eX hx))
 | ret x p hx ix=>
  refine sP ⟨⟨rH [114,101,116,117,114,110],_,rfl,by decide⟩,fun rest _=>?_⟩;rw [fO,cI];have e:aK (stmtC 31 bz ([x].map pcN))++rest=rH [114,101,116,117,114,110]::(aK (pcN x).e++(cY [59]::rest)):=by
   show aK (kw [114,101,116,117,114,110] :: .bl::((pcN x).e++[sg [59]]))++rest=_;rw [tU,jR,aZ,gW,nU];simp
  rw [e];exact Cf (.inr ⟨rfl,rfl⟩) ((ix.1 rfl).one (eX hx))
 | sexpr x p hx ix=>
  have hv:=(ix.1 rfl).one (eX hx);have e0:aK (pcN (.mk 32 0 0 bz [] [x] p)).s=aK (pcN x).e++[cY [59]]:=by
   rw [cI];show aK ((pcN x).e++[sg [59]])=_;rw [aZ];rfl
  refine sP ⟨by rw [e0];exact .ofE hv.1.app,fun rest _=>?_⟩;rw [e0,fO,List.append_assoc];exact lF (hv.1.app.not (by decide)) (hv.1.app.not (by decide)) (Bn hv.1 hv)
 | iff x y z p hx hy hz ix iy iz=>
  have hv:=(ix.1 rfl).one (eX hx);obtain⟨_,hby⟩:=iy.2.2 rfl;obtain⟨hhz,hbz⟩:=iz.2.2 rfl;have hzz:∃ ks,zN z=hJ 29 ks:=by
   cases hz with
   | block ks q hc hk=>exact⟨_,fO _ _ _ _ _ _ _⟩
  obtain⟨zks,hzz⟩:=hzz;refine sP ⟨by rw [cI];exact⟨rH [105,102],_,rfl,by decide⟩,fun rest hrest=>?_⟩;rw [fO,cI];have e:aK (stmtC 28 bz ([x,y,z].map pcN))++rest=rH [105,102]::cY [40]::(aK (pcN x).e++(cY [41]::(aK (pcN y).b++(aK (if (pcN z).has then .bl::kw [101,108,115,101] :: .bl::(pcN z).b else [])++rest)))):=by
   show aK (lI [105,102] (pcN x) (pcN y)++(if (pcN z).has then .bl::kw [101,108,115,101] :: .bl::(pcN z).b else []))++rest=_;unfold lI;rw [aZ,tU,jR,gW,aZ,gW,jR];simp
  rw [e];refine .up (h:=fun f=>(mS f (cY [40]::(aK (pcN x).e++(cY [41]::(aK (pcN y).b++(aK (if (pcN z).has then .bl::kw [101,108,115,101] :: .bl::(pcN z).b else [])++rest)))))).bind fun e _ l=>(dY f l).bind fun y _ l=>
   if bZ l [101,108,115,101] then (dY f l.tail).bind fun z _ l=>.ok (hJ 28 [e,y,z]) false l else .ok (hJ 28 [e,y,hJ 29 []]) false l) (fun f=>by rw [kI,kY];rfl) (.bind (IQ hv) (.bind (hby _) ?_))
  cases hh:(pcN z).has with
  | true=>
   refine .of (h:=fun f=>(dY f (aK (pcN z).b++rest)).bind fun z _ l=>.ok (hJ 28 [zN x,zN y,z]) false l) (fun f=>?_) (.bind (hbz rest) (.const _));rw [if_pos rfl,jR,tU,jR,List.cons_append,kY,if_pos (by decide)];rfl
  | false=>
   rw [hzz] at hhz;have hz0:zks=[]:=by
    rw [hh] at hhz;have:(hJ 29 zks).kids=zks:=rfl;rw [this] at hhz;cases zks with
    | nil=>rfl
    | cons=>cases hhz
   refine .of (h:=fun f=>.ok (hJ 28 [zN x,zN y,zN z]) false rest) (fun f=>?_) (.const _);have e3:(aK (if false=true then Pc.bl::kw [101,108,115,101]::Pc.bl::(pcN z).b else [])++rest)=rest:=rfl;rw [e3,hrest,hzz,hz0];rfl
 | whil x y p hx hy ix iy=>
  have hv:=(ix.1 rfl).one (eX hx);obtain⟨_,hby⟩:=iy.2.2 rfl;refine sP ⟨by rw [cI];exact⟨rH [119,104,105,108,101],_,rfl,by decide⟩,fun rest hrest=>?_⟩;rw [fO,cI];have e:aK (stmtC 30 bz ([x,y].map pcN))++rest=rH [119,104,105,108,101]::cY [40]::(aK (pcN x).e++(cY [41]::(aK (pcN y).b++rest))):=by
   show aK (lI [119,104,105,108,101] (pcN x) (pcN y))++rest=_;unfold lI;rw [tU,jR,gW,aZ,gW,jR];simp
  rw [e];refine .up (h:=fun f=>(mS f (cY [40]::(aK (pcN x).e++(cY [41]::(aK (pcN y).b++rest))))).bind fun e _ l=>(dY f l).bind fun y _ l=>.ok (hJ 30 [e,y]) false l) (fun f=>by rw [kI,kY,kY];rfl) (.bind (IQ hv) (.bind (hby _) (.const _)))
 | block ks p hc hk ik=>
  refine QD ⟨?_,fun rest=>?_⟩
  ·rw [cI,fO];show (!ks.isEmpty)=!(ks.map zN).isEmpty;cases ks<;>rfl
  ·rw [cI,fO];exact Ce (fun x hx=>(ik x hx).2.1 rfl) hc rest
def AG:Tok:=⟨6,⟨#[]⟩,0,0⟩
theorem Hc {t:Nd} (h:rightN t 3=true):Ev (fun f=>qF f true (aK (sI t)++[AG])) (.ok (zN t) false [AG]):=by
 have hr:=DG t 3 (by simp) h;cases hr with
 | block ks p hc hk=>
  have hk':∀ x∈ks,AC x:=fun x hx=>(OL (hk x hx)).2.1 rfl
  have e:aK (sI (.mk 29 0 0 bz [] ks p))++[AG]=aK (fC (ks.map pcN))++[AG]:=by
   show aK (pY (ks.map pcN))++[AG]=_;cases ks with
   | nil=>rfl
   | cons x r=>simp only [pY,fC,List.map_cons,List.flatMap_cons,aZ,List.cons_append,jR]
  have h1:Ev (fun f=>eG f (ks.map zN) [AG]) (.ok [] (ks.map zN) [AG]):=by
   refine .up (h:=fun _=>.ok [] (ks.map zN) [AG]) (fun f=>?_) (.const _);rw [eG,if_neg (by rintro⟨_,_,h⟩;exact h rfl)]
  have h2:=pM (rest:=[AG]) rfl ks [] hk' (by simpa using hc) _ h1;rw [e,fO];refine .of (h:=fun f=>((eG f [] (aK (fC (ks.map pcN))++[AG])).bind fun _ ks l=>.ok (hJ 29 ks) false l).bind fun e _ l=>if (cur l).kind=6 then .ok e false l else .bad l) (fun f=>rfl) (.bind (.lbind h2 (.const _)) (.of (fun f=>?_) (.const _)));rfl
end Go.Proofs.YtdnnmjhfidimcaaGreatDoor
