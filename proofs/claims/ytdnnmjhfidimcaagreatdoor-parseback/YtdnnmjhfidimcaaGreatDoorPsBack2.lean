/- A right tree comes back from its tokens: atoms, statements, programs. -/
import Derived.Test.YtdnnmjhfidimcaaGreatDoorJoint16
namespace Go.Proofs.YtdnnmjhfidimcaaGreatDoor
open Go.RowKit
theorem yX {ts:List Tok} {e:Nd} {b nc:Bool} (hf:Firsts ts) (h45:cD ts [45]=false) (h33:cD ts [33]=false) (h:∀ rest,Ev (fun f=>iG f (ts++rest)) (.ok e b rest)):Unit8 ts e b nc:=
 ⟨hf,h45,h33,fun rest res _ ht=>.up (h:=fun f=>(iG f (ts++rest)).bind fun e b l=>fN f e b l) (fun f=>by rw [kS]) (.bind (h rest) ht)⟩
/-! objects -/
theorem Ac (ns:List ByteArray) (ks:List Nd) (rest:List Tok):Stop 1 (aK (fW ns (ks.map pcN))++(dB [125]::rest)):=by
 cases ns with
 | nil=>cases ks<;>exact eM (by simp)
 | cons s ns=>
  cases ks with
  | nil=>exact eM (by simp)
  | cons x ks=>
   have e:∃ q,aK (fW (s::ns) ((x::ks).map pcN))++(dB [125]::rest)=dB [44]::q:=by
    simp only [fW,List.map_cons,List.cons_append,iA];exact⟨_,rfl⟩
   obtain⟨q,e⟩:=e;rw [e];exact eM (by simp)
theorem Ad {rest:List Tok} : ∀ (ns:List ByteArray) (ks:List Nd) (an:List ByteArray) (ak:List Nd),ks.length=ns.length→(∀ x∈ks,UnitAt 1 (aK (pcN x).e) (zN x) (pU x))→ak.length+ks.length≤40→
  Ev (fun f=>mO f an ak (aK (fW ns (ks.map pcN))++(dB [125]::rest))) (.ok (an++ns) (ak++ks.map zN) rest)
 | [],[],an,ak,_,_,_=>by
  refine .up (h:=fun _=>.ok an ak rest) (fun f=>?_) (by simpa using Ev.const (PL.ok an ak rest));rw [mO];have:cD (aK (fW [] (([]:List Nd).map pcN))++(dB [125]::rest)) [44]=false:=rfl;rw [this,if_neg (by simp)];exact tU _ _ _
 | s::ns,x::ks,an,ak,hn,h,hl=>by
  have hx:=h x (by simp);have ih:=Ad (rest:=rest) ns ks (an++[s]) (ak++[zN x]) (by simpa using hn) (fun y hy=>h y (by simp [hy])) (by simp at hl ⊢;omega);have e:aK (fW (s::ns) ((x::ks).map pcN))++(dB [125]::rest)=dB [44]::Cs s::dB [58]::(aK (pcN x).e++(aK (fW ns (ks.map pcN))++(dB [125]::rest))):=by
   simp only [fW,tN,List.map_cons,bB,List.cons_append,iA,Kg,kE,List.append_assoc]
  rw [e];have hw:=hx.whole (by omega) (Ac ns ks rest);refine .up (h:=fun f=>kT f an ak (Cs s::dB [58]::(aK (pcN x).e++(aK (fW ns (ks.map pcN))++(dB [125]::rest))))) (fun f=>?_) ?_
  ·rw [mO,fY,if_pos ⟨by simp at hl;omega,by decide⟩];rfl
  ·refine .up (h:=fun f=>(aS f 1 (aK (pcN x).e++(aK (fW ns (ks.map pcN))++(dB [125]::rest)))).bindL fun e _ l=>mO f (an++[s]) (ak++[e]) l) (fun f=>?_) (.bindL hw (by simpa using ih));rw [kT,FO,tU]
 | [],x::ks,_,_,hn,_,_=>by simp at hn
 | s::ns,[],_,_,hn,_,_=>by simp at hn
theorem OM {ns:List ByteArray} {ks:List Nd} (hn:ks.length=ns.length) (h40:ns.length≤40) (hk:∀ x∈ks,UnitAt 1 (aK (pcN x).e) (zN x) (pU x)):Unit8 (aK (yS ns (ks.map pcN))) (.mk 7 0 0 bz ns (ks.map zN) 0) false false:=by
 have h1:∃ q,aK (yS ns (ks.map pcN))=dB [123]::q:=by
  cases ns with
  | nil=>cases ks<;>exact⟨_,rfl⟩
  | cons s ns=>cases ks<;>exact⟨_,rfl⟩
 obtain⟨q,hq⟩:=h1;refine yX ⟨_,_,hq,by decide⟩ (by rw [hq,fY];rfl) (by rw [hq,fY];rfl) fun rest=>?_
 have key:Ev (fun f=>uV f (q++rest)) (.ok ns (ks.map zN) rest):=by
  cases ns with
  | nil=>
   have hk0:ks=[]:=List.length_eq_zero_iff.1 (by simpa using hn);subst hk0;have hq':q=[dB [125]]:=by have:aK (yS [] (([]:List Nd).map pcN))=[dB [123],dB [125]]:=rfl;rw [this] at hq;injection hq with _ h;exact h.symm
   subst hq';refine .up (h:=fun _=>.ok [] [] rest) (fun f=>?_) (.const _);rw [uV,List.cons_append,fY,if_pos (by decide)];rfl
  | cons s ns=>
   cases ks with
   | nil=>simp at hn
   | cons x ks=>
    have hx:=hk x (by simp);have hq':q=Cs s::dB [58]::(aK (pcN x).e++(aK (fW ns (ks.map pcN))++[dB [125]])):=by
     have:aK (yS (s::ns) ((x::ks).map pcN))=dB [123]::Cs s::dB [58]::(aK (pcN x).e++(aK (fW ns (ks.map pcN))++[dB [125]])):=by
      simp only [yS,tN,List.map_cons,bB,List.cons_append,iA,Kg,kE,oN,List.append_assoc]
     rw [this] at hq;injection hq with _ h;exact h.symm
    have ih:=Ad (rest:=rest) ns ks [s] [zN x] (by simpa using hn) (fun y hy=>hk y (by simp [hy])) (by simp at hn h40 ⊢;omega);have hw:=hx.whole (by omega) (Ac ns ks rest);have e:q++rest=Cs s::dB [58]::(aK (pcN x).e++(aK (fW ns (ks.map pcN))++(dB [125]::rest))):=by rw [hq'];simp
    rw [e];refine .up (h:=fun f=>kT f [] [] (Cs s::dB [58]::(aK (pcN x).e++(aK (fW ns (ks.map pcN))++(dB [125]::rest))))) (fun f=>?_) ?_
    ·rw [uV,OG,RJ s _ (by decide)];rfl
    ·refine .up (h:=fun f=>(aS f 1 (aK (pcN x).e++(aK (fW ns (ks.map pcN))++(dB [125]::rest)))).bindL fun e _ l=>mO f ([]++[s]) ([]++[e]) l) (fun f=>?_) (.bindL hw (by simpa using ih));rw [kT,FO,tU]
 rw [hq];refine .up (h:=fun f=>(uV f (q++rest)).bind fun ns ks l=>.ok (.mk 7 0 0 bz ns ks 0) false l) (fun f=>?_) (.lbind key (.const _));rw [List.cons_append,iG];simp [cur,dB,cD,gP]
/-! functions -/
theorem Di {rest:List Tok} : ∀ (ns:List ByteArray) (s:ByteArray) (an:List ByteArray) (f:Nat),ns.length+1≤f→vI f an (Ea s::(aK (mZ ns)++(dB [41]::rest)))=.ok (an++s::ns) [] rest
 | [],s,an,f,hf=>by
  obtain⟨f,rfl⟩:∃ f',f=f'+1:=⟨f - 1,by simp at hf;omega⟩
  rw [vI,FP];have:cD (aK (mZ [])++(dB [41]::rest)) [44]=false:=rfl;rw [this,if_neg (by simp)];exact tU _ _ _
 | n::ns,s,an,f,hf=>by
  obtain⟨f,rfl⟩:∃ f',f=f'+1:=⟨f - 1,by simp at hf;omega⟩
  have e:aK (mZ (n::ns))++(dB [41]::rest)=dB [44]::Ea n::(aK (mZ ns)++(dB [41]::rest)):=by
   simp only [mZ,List.flatMap_cons,List.cons_append,iA,kE,OI,List.nil_append]
  rw [vI,FP,e,fY,if_pos ⟨by simp at hf;omega,by decide⟩];show vI f (an++[s]) (Ea n::(aK (mZ ns)++(dB [41]::rest)))=_;rw [Di ns n (an++[s]) f (by simp at hf;omega)];simp
theorem ON {ns:List ByteArray} (h:ns.length≤6) (rest:List Tok):sG (aK (oJ ns)++(dB [41]::rest))=.ok ns [] rest:=by
 unfold sG;cases ns with
 | nil=>
  have:cD (aK (oJ [])++(dB [41]::rest)) [41]=true:=rfl;rw [this,if_pos rfl];rfl
 | cons s ns=>
  have e:aK (oJ (s::ns))++(dB [41]::rest)=Ea s::(aK (mZ ns)++(dB [41]::rest)):=rfl;rw [e,RI,if_neg (by simp),Di ns s [] 6 (by simp at h;omega)];rfl
/-! statements -/
def IV (t:Tok):Bool:=tV t||[[108,101,116],[112,114,105,110,116],[114,101,116,117,114,110],[100,101,108,101,116,101],[105,102],[119,104,105,108,101]].any (gP t)
def FirstsS (ts:List Tok):Prop:=∃ t r,ts=t::r∧IV t=true
theorem FirstsS.ofE {ts:List Tok} (h:Firsts ts):FirstsS ts:=by
 obtain⟨t,r,e,h1⟩:=h;exact⟨t,r,e,by unfold IV;rw [h1];rfl⟩
theorem FirstsS.app {a b:List Tok} (h:FirstsS a):FirstsS (a++b):=by
 obtain⟨t,r,e,h1⟩:=h;exact⟨t,r++b,by rw [e];rfl,h1⟩
theorem FirstsS.not {l:List Tok} (h:FirstsS l):cD l [125]=false∧cD l [101,108,115,101]=false∧(cur l).kind≠6:=by
 obtain⟨t,r,rfl,h1⟩:=h;unfold IV at h1;rw [Bool.or_eq_true] at h1;rcases h1 with h1 | h1
 ·exact⟨yW h1 (by decide),yW h1 (by decide),BH h1⟩
 ·rw [List.any_eq_true] at h1;obtain⟨x,hx,ht⟩:=h1;refine⟨Ej ht ?_,Ej ht ?_,?_⟩
  ·simp only [List.mem_cons,List.not_mem_nil,or_false] at hx;rcases hx with rfl | rfl | rfl | rfl | rfl | rfl<;>rfl
  ·simp only [List.mem_cons,List.not_mem_nil,or_false] at hx;rcases hx with rfl | rfl | rfl | rfl | rfl | rfl<;>rfl
  ·intro e;have e':t.kind=6:=e;unfold gP at ht;rw [e'] at ht;cases ht
def BI (x:Nd):Prop:=FirstsS (aK (pcN x).s)∧∀ rest,cD rest [101,108,115,101]=false→Ev (fun f=>kU f (aK (pcN x).s++rest)) (.ok (zN x) false rest)
def QZ (x:Nd):Prop:=(pcN x).has=(!(zN x).kids.isEmpty)∧∀ rest,Ev (fun f=>eC f (aK (pcN x).b++rest)) (.ok (zN x) false rest)
theorem qQ {rest:List Tok} (he:cD rest [101,108,115,101]=false):∀ (ks:List Nd) (acc:List Nd),(∀ x∈ks,BI x)→acc.length+ks.length≤40→∀ res,Ev (fun f=>eK f (acc++ks.map zN) rest) res→
  Ev (fun f=>eK f acc (aK (fO (ks.map pcN))++rest)) res
 | [],acc,_,_,res,h=>by simpa [fO,oN] using h
 | x::ks,acc,h,hl,res,hr=>by
  obtain⟨hf,hx⟩:=h x (by simp);have ih:=qQ he ks (acc++[zN x]) (fun y hy=>h y (by simp [hy])) (by simp at hl ⊢;omega) res (by simpa using hr);have e:aK (fO ((x::ks).map pcN))++rest=aK (pcN x).s++(aK (fO (ks.map pcN))++rest):=by
   simp only [fO,List.map_cons,List.flatMap_cons,bB,List.cons_append,kE,List.append_assoc]
  have hst:cD (aK (fO (ks.map pcN))++rest) [101,108,115,101]=false:=by
   cases ks with
   | nil=>exact he
   | cons y r=>
    have e2:aK (fO ((y::r).map pcN))++rest=aK (pcN y).s++(aK (fO (r.map pcN))++rest):=by
     simp only [fO,List.map_cons,List.flatMap_cons,bB,List.cons_append,kE,List.append_assoc]
    rw [e2];exact ((h y (by simp)).1.app).not.2.1
  rw [e];have hn:=(hf.app (b:=aK (fO (ks.map pcN))++rest)).not;refine .up (h:=fun f=>(kU f (aK (pcN x).s++(aK (fO (ks.map pcN))++rest))).bindL fun e _ l=>eK f (acc++[e]) l) (fun f=>?_) (.bindL (hx _ hst) ih);rw [eK,if_pos ⟨by simp at hl;omega,hn.1,hn.2.2⟩]
theorem Dj {ks:List Nd} (h:∀ x∈ks,BI x) (hl:ks.length≤40) (rest:List Tok):Ev (fun f=>eC f (aK (blockC (ks.map pcN))++rest)) (.ok (iH 29 (ks.map zN)) false rest):=by
 have e:aK (blockC (ks.map pcN))++rest=dB [123]::(aK (fO (ks.map pcN))++(dB [125]::rest)):=by
  unfold blockC;rw [iA,bB];cases ks<;>simp [iA,kE,oN]
 rw [e];have h1:Ev (fun f=>eK f (ks.map zN) (dB [125]::rest)) (.ok [] (ks.map zN) (dB [125]::rest)):=by
  refine .up (h:=fun _=>.ok [] (ks.map zN) (dB [125]::rest)) (fun f=>?_) (.const _);rw [eK,fY,if_neg (by simp)]
 have h2:=qQ (rest:=dB [125]::rest) (by rw [fY];rfl) ks [] h (by simpa using hl) _ h1;refine .up (h:=fun f=>(eK f [] (aK (fO (ks.map pcN))++(dB [125]::rest))).bind fun _ ks l=>must [125] l fun l=>.ok (iH 29 ks) false l) (fun f=>by rw [eC,lE]) (.lbind h2 ?_);exact .of (fun f=>lE _ _ _) (.const _)
theorem Qk {ns:List ByteArray} {ks:List Nd} (h6:ns.length≤6) (hl:ks.length≤40) (hk:∀ x∈ks,BI x):Unit8 (aK (kw [102,110]::sg [40]::(oJ ns++(sg [41] :: .bl::blockC (ks.map pcN))))) (.mk 8 0 0 bz ns (ks.map zN) 0) false false:=by
 have e:aK (kw [102,110]::sg [40]::(oJ ns++(sg [41] :: .bl::blockC (ks.map pcN))))=sN [102,110]::dB [40]::(aK (oJ ns)++(dB [41]::aK (blockC (ks.map pcN)))):=by
  rw [vD,iA,bB,iA,kE]
 rw [e];refine yX ⟨_,_,rfl,by decide⟩ (by rw [lN];rfl) (by rw [lN];rfl) fun rest=>?_
 have hb:=Dj hk hl rest;refine .up (h:=fun f=>(eC f (aK (blockC (ks.map pcN))++rest)).bind fun b _ l'=>.ok (.mk 8 0 0 bz ns b.kids 0) false l') (fun f=>?_) (.bind hb (.const _));rw [List.cons_append,iG];have hc:(cur (sN [102,110]::(dB [40]::(aK (oJ ns)++(dB [41]::aK (blockC (ks.map pcN))))++rest))).kind=2:=rfl;have hp:(cur (sN [102,110]::(dB [40]::(aK (oJ ns)++(dB [41]::aK (blockC (ks.map pcN))))++rest))).pl=0:=rfl;rw [hc,hp];simp only [lN];rw [if_neg (by decide),if_neg (by decide),if_neg (by decide),if_neg (by decide),if_neg (by decide),if_neg (by decide),if_neg (by decide),if_neg (by decide),if_neg (by decide),if_pos (by decide)];show must [40] (dB [40]::((aK (oJ ns)++(dB [41]::aK (blockC (ks.map pcN))))++rest)) _=_;rw [lE];have e2:(aK (oJ ns)++(dB [41]::aK (blockC (ks.map pcN))))++rest=aK (oJ ns)++(dB [41]::(aK (blockC (ks.map pcN))++rest)):=by simp
 rw [e2,ON h6,PL.bind_ok]
theorem BJ {o:Int} (h:1≤o∧o≤7) (l:List Tok) :
  tV (sN (builtT o).1)=true∧gP (sN (builtT o).1) [45]=false∧gP (sN (builtT o).1) [33]=false∧oL (sN (builtT o).1::l)=some o∧
  [[110,117,108,108],[116,114,117,101],[102,97,108,115,101],[116,104,105,115],[40],[123],[102,110]].all (fun x=>!cD (sN (builtT o).1::l) x)=true∧((builtT o).2=1∨(builtT o).2=2):=by
 obtain rfl | rfl | rfl | rfl | rfl | rfl | rfl:o=1∨o=2∨o=3∨o=4∨o=5∨o=6∨o=7:=by omega
 all_goals exact⟨by decide,by decide,by decide,rfl,rfl,by decide⟩
theorem IW {o:Int} (ho:1≤o∧o≤7) {ks:List Nd} (hc:ks.length=(builtT o).2) (hk:∀ x∈ks,UnitAt 1 (aK (pcN x).e) (zN x) (pU x)):Unit8 (aK (kw (builtT o).1::lH (ks.map pcN))) (gS 17 o (ks.map zN)) false false:=by
 obtain⟨b1,b2,b3,_,_,b6⟩:=BJ ho [];rw [vD];refine yX ⟨_,_,rfl,b1⟩ b2 b3 fun rest=>?_
 obtain⟨_,_,_,b4,b5,_⟩:=BJ ho (aK (lH (ks.map pcN))++rest);simp only [List.all_cons,List.all_nil,Bool.and_eq_true,Bool.not_eq_true'] at b5;obtain⟨n1,n2,n3,n4,n5,n6,n7,_⟩:=b5;have head:∀ f,iG (f+1) (sN (builtT o).1::aK (lH (ks.map pcN))++rest)=must [40] (aK (lH (ks.map pcN))++rest) fun l=>(aS f 1 l).bind fun e _ l=>
     if (builtT o).2=2 then must [44] l fun l=>(aS f 1 l).bind fun e' _ l=>must [41] l fun l=>.ok (gS 17 o [e,e']) false l
     else must [41] l fun l=>.ok (gS 17 o [e]) false l:=by
  intro f;rw [List.cons_append,iG];have hcur:(cur (sN (builtT o).1::(aK (lH (ks.map pcN))++rest))).kind=2:=rfl;rw [hcur,n1,n2,n3,n4,n5,n6,n7,b4,if_neg (by decide),if_neg (by decide),if_neg (by decide)];rfl
 refine .up head ?_;have e:aK (lH (ks.map pcN))++rest=dB [40]::(aK (nG (ks.map pcN))++(dB [41]::rest)):=by
  unfold lH;rw [iA,bB];simp [iA,oN]
 rw [e];refine .of (fun f=>lE _ _ _) ?_;rcases b6 with b6 | b6
 ·rw [b6] at hc;obtain⟨x,rfl⟩:=List.length_eq_one_iff.1 hc;have hw:=(hk x (by simp)).whole (by omega) (rest:=dB [41]::rest) (eM (by simp));have e2:aK (nG ([x].map pcN))++(dB [41]::rest)=aK (pcN x).e++(dB [41]::rest):=by simp [nG,fV]
  rw [e2];refine .bind hw (.of (fun f=>?_) (.const _));rw [b6,if_neg (by decide),lE];rfl
 ·rw [b6] at hc;obtain⟨x,y,rfl⟩:=qE hc;have hx:=hk x (by simp);have hy:=hk y (by simp);have hw:=hx.whole (by omega) (rest:=dB [44]::(aK (pcN y).e++(dB [41]::rest))) (eM (by simp));have hv:=hy.whole (by omega) (rest:=dB [41]::rest) (eM (by simp));have e2:aK (nG ([x,y].map pcN))++(dB [41]::rest)=aK (pcN x).e++(dB [44]::(aK (pcN y).e++(dB [41]::rest))):=by
   simp only [nG,fV,List.map_cons,List.map_nil,List.flatMap_cons,List.flatMap_nil,List.append_nil,bB,iA,kE,List.append_assoc,List.cons_append]
  rw [e2];refine .bind hw ?_;refine .of (h:=fun f=>(aS f 1 (aK (pcN y).e++(dB [41]::rest))).bind fun e' _ l=>must [41] l fun l=>.ok (gS 17 o [zN x,e']) false l) (fun f=>?_) (.bind hv (.of (fun f=>lE _ _ _) (.const _)));rw [b6,if_pos rfl,lE]
theorem xM {ks:List Nd} (h:∀ x∈ks,Rt 1 x) (hb:∀ x∈ks,BackE x):∀ x∈ks,UnitAt 1 (aK (pcN x).e) (zN x) (pU x):=fun x hx=>(hb x hx).one (fK (h x hx))
theorem BK {s:ByteArray} {x:Nd} (hx:Rt 1 x) (ix:BackE x):Unit8 (aK (tO (pcN x) s)) (uU 13 s [zN x]) true true:=by
 obtain⟨b,u⟩:=qL ix (fK hx) 8 (by omega);unfold tO;rw [bB,iA,Kg,oN];exact OL u s
theorem vZ {x y:Nd} (hx:Rt 1 x) (hy:Rt 1 y) (ix:BackE x) (iy:BackE y) (nd:Bool):Unit8 (aK (nA (pcN x) (pcN y))) (iH 14 [zN x,zN y]) true nd:=by
 obtain⟨b,u⟩:=qL ix (fK hx) 8 (by omega);unfold nA;rw [bB,iA,bB,iA,oN];exact IU u (iy.one (fK hy))
theorem Ql (l:List Tok):Stop 1 (dB [61]::l):=by
 refine⟨⟨rfl,rfl,rfl⟩,fun r' _=>?_⟩;unfold mF AK;split<;>rfl
theorem lS {ts:List Tok} {e:Nd} (h1:cD ts [105,102]=false) (h2:cD ts [119,104,105,108,101]=false) {rest:List Tok} (h:Ev (fun f=>iV f ts) (.ok e false (dB [59]::rest))):Ev (fun f=>kU f ts) (.ok e false rest):=by
 refine .up (h:=fun f=>(iV f ts).bind fun e _ l=>must [59] l fun l=>.ok e false l) (fun f=>?_) (.bind h (.of (fun f=>lE _ _ _) (.const _)));rw [kU,h1,h2];rfl
theorem Ct {ts rest:List Tok} {e:Nd} {b:Bool} (hf:Firsts ts) (h:UnitAt 1 ts e b):Ev (fun f=>iV f (ts++(dB [59]::rest))) (.ok (iH 32 [e]) false (dB [59]::rest)):=by
 have hw:=h.whole (by omega) (rest:=dB [59]::rest) (eM (by simp));have hn:=fun x hx=>(hf.app (b:=dB [59]::rest)).not (x:=x) hx
 refine .up (h:=fun f=>(aS f 1 (ts++(dB [59]::rest))).bind fun e b l=>if b=true∧cD l [61]=true then (aS f 1 l.tail).bind fun v _ l=>.ok (becomeN e v) false l else .ok (iH 32 [e]) false l) (fun f=>?_) (.bind hw (.of (fun f=>?_) (.const _)))
 ·rw [iV,hn _ (by decide),hn _ (by decide),hn _ (by decide),hn _ (by decide)];rfl
 ·rw [fY,if_neg (by intro h;exact absurd h.2 (by decide))]
theorem El {ts tv rest:List Tok} {e v:Nd} {b:Bool} (hf:Firsts ts) (h:UnitAt 1 ts e true) (hv:UnitAt 1 tv v b):Ev (fun f=>iV f (ts++(dB [61]::(tv++(dB [59]::rest))))) (.ok (becomeN e v) false (dB [59]::rest)):=by
 have hw:=h.whole (by omega) (rest:=dB [61]::(tv++(dB [59]::rest))) (Ql _);have hw2:=hv.whole (by omega) (rest:=dB [59]::rest) (eM (by simp));have hn:=fun x hx=>(hf.app (b:=dB [61]::(tv++(dB [59]::rest)))).not (x:=x) hx
 refine .up (h:=fun f=>(aS f 1 (ts++(dB [61]::(tv++(dB [59]::rest))))).bind fun e b l=>if b=true∧cD l [61]=true then (aS f 1 l.tail).bind fun v _ l=>.ok (becomeN e v) false l else .ok (iH 32 [e]) false l) (fun f=>?_) (.bind hw ?_)
 ·rw [iV,hn _ (by decide),hn _ (by decide),hn _ (by decide),hn _ (by decide)];rfl
 ·refine .of (h:=fun f=>(aS f 1 (tv++(dB [59]::rest))).bind fun v _ l=>.ok (becomeN e v) false l) (fun f=>?_) (.bind hw2 (.const _));rw [fY,if_pos ⟨rfl,by decide⟩];rfl
theorem oX (x:Px) (R:List Pc):aK (hX x++R)=dB [61]::(aK x.e++aK R):=by
 unfold hX;rw [List.cons_append,List.cons_append,List.cons_append,kE,iA,kE,bB]
theorem tW {ts:List Tok} {e:Nd} (h:UnitAt 1 ts e true) {v:Nd} (hv:UnitAt 1 (aK (pcN v).e) (zN v) (pU v)) {x:Nd} (ht:aK (pcN x).s=ts++(dB [61]::(aK (pcN v).e++[dB [59]]))) (hz:becomeN e (zN v)=zN x):BI x:=by
 have hf:=h.1;refine⟨by rw [ht];exact .ofE hf.app,fun rest _=>?_⟩;rw [ht,← hz];have e2:ts++(dB [61]::(aK (pcN v).e++[dB [59]]))++rest=ts++(dB [61]::(aK (pcN v).e++(dB [59]::rest))):=by simp
 rw [e2];exact lS (hf.app.not (by decide)) (hf.app.not (by decide)) (El hf h hv)
theorem Dk {key:List UInt8} {k:Int} (hk:key=[112,114,105,110,116]∧k=27∨key=[114,101,116,117,114,110]∧k=31) {ts rest:List Tok} {e:Nd} {b:Bool} (h:UnitAt 1 ts e b) :
  Ev (fun f=>kU f (sN key::(ts++(dB [59]::rest)))) (.ok (iH k [e]) false rest):=by
 have hw:=h.whole (by omega) (rest:=dB [59]::rest) (eM (by simp));refine lS (by rw [lN];rcases hk with ⟨rfl,_⟩ | ⟨rfl,_⟩<;>rfl) (by rw [lN];rcases hk with ⟨rfl,_⟩ | ⟨rfl,_⟩<;>rfl) ?_;refine .up (h:=fun f=>(aS f 1 (ts++(dB [59]::rest))).bind fun e _ l=>.ok (iH k [e]) false l) (fun f=>?_) (.bind hw (.const _));rw [iV];rcases hk with ⟨rfl,rfl⟩ | ⟨rfl,rfl⟩<;>simp only [lN]<;>rfl
theorem FT {ts rest:List Tok} {e:Nd} {nc:Bool} (h:Unit8 ts e true nc) (h5:e.kind≠5):Ev (fun f=>kU f (sN [100,101,108,101,116,101]::(ts++(dB [59]::rest)))) (.ok (if e.kind=13 then uU 25 e.str e.kids else iH 26 e.kids) false rest):=by
 refine lS (by rw [lN];rfl) (by rw [lN];rfl) ?_;have hp:Ev (fun f=>kS f (ts++(dB [59]::rest))) (.ok e true (dB [59]::rest)):=h.2.2.2 _ _ (fun _=>by rw [fY];rfl) (Df (eM (c:=59) (by simp)).1);refine .up (h:=fun f=>(kS f (ts++(dB [59]::rest))).bind fun e b l=>if b=true∧e.kind≠5 then .ok (if e.kind=13 then uU 25 e.str e.kids else iH 26 e.kids) false l else .bad l) (fun f=>?_) (.bind hp (.of (fun f=>?_) (.const _)))
 ·rw [iV];simp only [lN];rfl
 ·rw [if_pos ⟨rfl,h5⟩]
theorem Kh {ts rest:List Tok} {e:Nd} {b:Bool} (h:UnitAt 1 ts e b):Ev (fun f=>nL f (dB [40]::(ts++(dB [41]::rest)))) (.ok e false rest):=by
 have hw:=h.whole (by omega) (rest:=dB [41]::rest) (eM (by simp));exact .up (h:=fun f=>(aS f 1 (ts++(dB [41]::rest))).bind fun e _ l=>must [41] l fun l=>.ok e false l) (fun f=>by rw [nL,lE]) (.bind hw (.of (fun f=>lE _ _ _) (.const _)))
def Ki (a:Nat) (t:Nd):Prop:=(a=1→BackE t)∧(a=2→BI t)∧(a=3→QZ t)
theorem nI {t:Nd} (h:BackE t):Ki 1 t:=⟨fun _=>h,fun h=>(by cases h),fun h=>(by cases h)⟩
theorem tX {t:Nd} (h:BI t):Ki 2 t:=⟨fun h=>(by cases h),fun _=>h,fun h=>(by cases h)⟩
theorem Sk {t:Nd} (h:QZ t):Ki 3 t:=⟨fun h=>(by cases h),fun h=>(by cases h),fun _=>h⟩
theorem Qm {a:Nat} {t:Nd} (h:Rt a t):Ki a t:=by
 induction h with
 | null p=>exact nI (iR (mJ (t:=sN [110,117,108,108]) (by decide) (by decide) (by decide) fun f rest=>by rw [iG];rfl) (by simp only [gM,Nd.kind,Nd.op];decide))
 | bool n p hn=>
  rcases hn with rfl | rfl
  ·exact nI (iR (mJ (t:=sN [102,97,108,115,101]) (by decide) (by decide) (by decide) fun f rest=>by rw [iG];rfl) (by simp only [gM,Nd.kind,Nd.op];decide))
  ·exact nI (iR (mJ (t:=sN [116,114,117,101]) (by decide) (by decide) (by decide) fun f rest=>by rw [iG];rfl) (by simp only [gM,Nd.kind,Nd.op];decide))
 | int n p hn=>exact nI (iR (mJ (t:=⟨3,⟨(digs n).toArray⟩,n,0⟩) rfl rfl rfl fun f rest=>by rw [iG];rfl) (by simp only [gM,Nd.kind,Nd.op];decide))
 | str s p hs=>exact nI (iR (mJ (t:=⟨4,s,0,0⟩) rfl rfl rfl fun f rest=>by rw [iG];rfl) (by simp only [gM,Nd.kind,Nd.op];decide))
 | name s p hs=>exact nI (iR (mJ (t:=Ea s) rfl rfl rfl fun f rest=>by rw [iG];rfl) (by simp only [gM,Nd.kind,Nd.op];decide))
 | this p=>exact nI (iR (mJ (t:=sN [116,104,105,115]) (by decide) (by decide) (by decide) fun f rest=>by rw [iG];rfl) (by simp only [gM,Nd.kind,Nd.op];decide))
 | obj ns ks p hl hm hns hk ih=>
  refine nI (iR ?_ (by simp only [gM,Nd.kind,Nd.op];decide));rw [gA,cM];exact OM hl hm (xM hk fun x hx=>(ih x hx).1 rfl)
 | fn ns ks p hm hns hc hk ih=>
  refine nI (iR ?_ (by simp only [gM,Nd.kind,Nd.op];decide));rw [gA,cM];exact Qk hm hc fun x hx=>(ih x hx).2.1 rfl
 | un o x p ho hx ix=>
  have hr:gM (.mk 9 o 0 bz [] [x] p)=7:=by simp only [gM,Nd.kind,Nd.op,rankT];rfl
  refine nI (Av (by omega) ?_);rw [hr,gA,cM];obtain⟨b,u⟩:=vY (ix.1 rfl) (fK hx) (r:=7) (by omega);have hu:=u.2;rw [if_neg (by omega)] at hu;rcases ho with rfl | rfl
  ·refine⟨⟨dB [45],_,rfl,by decide⟩,?_⟩;rw [if_neg (by omega)];intro rest hrest;refine .up (h:=fun f=>(aS f 7 (aK (iQ (pcN x) ((7:Nat):Int))++rest)).bind fun e _ l=>.ok (gS 9 1 [e]) false l) (fun f=>?_) (.bind (hu rest hrest) (.const _));show aS (f+1) 7 (dB [45]::(aK (iQ (pcN x) ((7:Nat):Int))++rest))=_;rw [aS,fY];rfl
  ·refine⟨⟨dB [33],_,rfl,by decide⟩,?_⟩;rw [if_neg (by omega)];intro rest hrest;refine .up (h:=fun f=>(aS f 7 (aK (iQ (pcN x) ((7:Nat):Int))++rest)).bind fun e _ l=>.ok (gS 9 2 [e]) false l) (fun f=>?_) (.bind (hu rest hrest) (.const _));show aS (f+1) 7 (dB [33]::(aK (iQ (pcN x) ((7:Nat):Int))++rest))=_;rw [aS,fY,fY];rfl
 | bin o x y p ho hx hy ix iy=>
  obtain⟨r,e,r3,r6,_,_⟩:=Dg ho [];have hr:gM (.mk 10 o 0 bz [] [x,y] p)=r:=by simp only [gM,Nd.kind,Nd.op,e];omega
  refine nI (Av (by omega) ?_);rw [hr,gA,cM];show UnitAt r (aK (lR (rankT 10 o) (signT o) (pcN x) (pcN y))) (gS 10 o [zN x,zN y]) false;rw [e];refine sA (by omega) r6 (fun l=>?_) (ix.1 rfl) (iy.1 rfl) (fK hx) (fK hy);obtain⟨r',e',_,_,h3,h4⟩:=Dg ho l;have:r'=r:=by omega
  subst this;exact⟨h3,h4⟩
 | and x y p hx hy ix iy=>
  refine nI (Av (by simp only [gM,Nd.kind,Nd.op];decide) ?_);rw [gA,cM];exact sA (r:=2) (by omega) (by omega) OK (ix.1 rfl) (iy.1 rfl) (fK hx) (fK hy)
 | or x y p hx hy ix iy=>
  refine nI (Av (by simp only [gM,Nd.kind,Nd.op];decide) ?_);rw [gA,cM];exact sA (r:=1) (by omega) (by omega) Qj (ix.1 rfl) (iy.1 rfl) (fK hx) (fK hy)
 | get s x p hs hx ix=>
  refine nI (iR ?_ (by simp only [gM,Nd.kind,Nd.op];decide));rw [gA,cM];exact BK hx (ix.1 rfl)
 | index x y p hx hy ix iy=>
  refine nI (iR ?_ (by simp only [gM,Nd.kind,Nd.op];decide));rw [gA,cM];exact vZ hx hy (ix.1 rfl) (iy.1 rfl) _
 | call x ks p hc hx hk ix ik=>
  refine nI (iR ?_ (by simp only [gM,Nd.kind,Nd.op];decide));rw [gA,cM];show Unit8 (aK (iQ (pcN x) (if (pcN x).kind=13 then 9 else 8)++lH (ks.map pcN))) (iH 15 (zN x::ks.map zN)) false false;rw [bB,OJ];obtain⟨b,u⟩:=qL (ix.1 rfl) (fK hx) (if x.kind=13 then 9 else 8) (by split<;>omega);have hnc:decide (x.kind=13∧(if x.kind=13 then (9:Int) else 8)≤rankT x.kind x.op)=false:=by
   rw [decide_eq_false_iff_not];rintro⟨h1,h2⟩;rw [h1] at h2;simp [rankT] at h2
  rw [hnc] at u;exact MA u (xM hk fun x hx=>(ik x hx).1 rfl) hc
 | meth s x ks p hs hc hx hk ix ik=>
  refine nI (iR ?_ (by simp only [gM,Nd.kind,Nd.op];decide));rw [gA,cM];show Unit8 (aK (tO (pcN x) s++lH (ks.map pcN))) (uU 16 s (zN x::ks.map zN)) false false;obtain⟨b,u⟩:=qL (ix.1 rfl) (fK hx) 8 (by omega);have:=MB u s (xM hk fun x hx=>(ik x hx).1 rfl) hc;unfold tO;rw [bB,bB,iA,Kg,oN,List.append_assoc];exact this
 | built o ks p ho hc hk ik=>
  refine nI (iR ?_ (by simp [gM,Nd.kind,rankT]));rw [gA,cM];exact IW ho hc (xM hk fun x hx=>(ik x hx).1 rfl)
 | slet s x p hs hx ix=>
  refine tX ⟨⟨sN [108,101,116],_,rfl,by decide⟩,fun rest _=>?_⟩;rw [gA,cM];have hv:=(ix.1 rfl).one (fK hx);have hw:=hv.whole (by omega) (rest:=dB [59]::rest) (eM (by simp));have e:aK (stmtC 21 s ([x].map pcN))++rest=sN [108,101,116]::Ea s::dB [61]::(aK (pcN x).e++(dB [59]::rest)):=by
   show aK (kw [108,101,116] :: .bl::nm s::(hX (pcN x)++[sg [59]]))++rest=_;rw [vD,kE,OI,oX,iA,oN];simp
  rw [e];refine lS (by rw [lN];rfl) (by rw [lN];rfl) ?_;refine .up (h:=fun f=>(aS f 1 (aK (pcN x).e++(dB [59]::rest))).bind fun e _ l'=>.ok (.mk 21 0 0 s [] [e] 0) false l') (fun f=>?_) (.bind hw (.const _));rw [iV,lN,if_pos (by decide)];show kR false (Ea s::dB [61]::(aK (pcN x).e++(dB [59]::rest))) _=_;rw [OH,lE];rfl
 | assign s x p hs hx ix=>
  have hn:BackE (.mk 5 0 0 s [] [] p):=iR (mJ (t:=Ea s) rfl rfl rfl fun f rest=>by rw [iG];rfl) (by simp only [gM,Nd.kind,Nd.op];decide);refine tX (tW (ts:=[Ea s]) (e:=.mk 5 0 0 s [] [] 0) (hn.one (by simp only [gM,Nd.kind,Nd.op];decide)) ((ix.1 rfl).one (fK hx)) ?_ ?_)
  ·rw [cM];show aK (nm s::(hX (pcN x)++[sg [59]]))=_;rw [OI,oX];rfl
  ·rw [gA];rfl
 | set s x y p hs hx hy ix iy=>
  have hg:=BK (s:=s) hx (ix.1 rfl);refine tX (tW (hg.at7.to (by omega) (by omega)) ((iy.1 rfl).one (fK hy)) ?_ ?_)
  ·rw [cM];show aK (tO (pcN x) s++hX (pcN y)++[sg [59]])=_;rw [List.append_assoc,bB,oX];rfl
  ·rw [gA];rfl
 | setix x y z p hx hy hz ix iy iz=>
  have hg:=vZ hx hy (ix.1 rfl) (iy.1 rfl) false;refine tX (tW (hg.at7.to (by omega) (by omega)) ((iz.1 rfl).one (fK hz)) ?_ ?_)
  ·rw [cM];show aK (nA (pcN x) (pcN y)++hX (pcN z)++[sg [59]])=_;rw [List.append_assoc,bB,oX];rfl
  ·rw [gA];rfl
 | del s x p hs hx ix=>
  refine tX ⟨⟨sN [100,101,108,101,116,101],_,rfl,by decide⟩,fun rest _=>?_⟩;rw [gA,cM];have e:aK (stmtC 25 s ([x].map pcN))++rest=sN [100,101,108,101,116,101]::(aK (tO (pcN x) s)++(dB [59]::rest)):=by
   show aK (kw [100,101,108,101,116,101] :: .bl::(tO (pcN x) s++[sg [59]]))++rest=_;rw [vD,kE,bB,iA,oN];simp
  rw [e];exact FT (BK hx (ix.1 rfl)) (by simp [uU,Nd.kind])
 | delix x y p hx hy ix iy=>
  refine tX ⟨⟨sN [100,101,108,101,116,101],_,rfl,by decide⟩,fun rest _=>?_⟩;rw [gA,cM];have e:aK (stmtC 26 bz ([x,y].map pcN))++rest=sN [100,101,108,101,116,101]::(aK (nA (pcN x) (pcN y))++(dB [59]::rest)):=by
   show aK (kw [100,101,108,101,116,101] :: .bl::(nA (pcN x) (pcN y)++[sg [59]]))++rest=_;rw [vD,kE,bB,iA,oN];simp
  rw [e];exact FT (vZ hx hy (ix.1 rfl) (iy.1 rfl) false) (by simp [iH,Nd.kind])
 | print x p hx ix=>
  refine tX ⟨⟨sN [112,114,105,110,116],_,rfl,by decide⟩,fun rest _=>?_⟩;rw [gA,cM];have e:aK (stmtC 27 bz ([x].map pcN))++rest=sN [112,114,105,110,116]::(aK (pcN x).e++(dB [59]::rest)):=by
   show aK (kw [112,114,105,110,116] :: .bl::((pcN x).e++[sg [59]]))++rest=_;rw [vD,kE,bB,iA,oN];simp
  rw [e];exact Dk (.inl ⟨rfl,rfl⟩) ((ix.1 rfl).one (fK hx))
 | ret x p hx ix=>
  refine tX ⟨⟨sN [114,101,116,117,114,110],_,rfl,by decide⟩,fun rest _=>?_⟩;rw [gA,cM];have e:aK (stmtC 31 bz ([x].map pcN))++rest=sN [114,101,116,117,114,110]::(aK (pcN x).e++(dB [59]::rest)):=by
   show aK (kw [114,101,116,117,114,110] :: .bl::((pcN x).e++[sg [59]]))++rest=_;rw [vD,kE,bB,iA,oN];simp
  rw [e];exact Dk (.inr ⟨rfl,rfl⟩) ((ix.1 rfl).one (fK hx))
 | sexpr x p hx ix=>
  have hv:=(ix.1 rfl).one (fK hx);have e0:aK (pcN (.mk 32 0 0 bz [] [x] p)).s=aK (pcN x).e++[dB [59]]:=by
   rw [cM];show aK ((pcN x).e++[sg [59]])=_;rw [bB];rfl
  refine tX ⟨by rw [e0];exact .ofE hv.1.app,fun rest _=>?_⟩;rw [e0,gA,List.append_assoc];exact lS (hv.1.app.not (by decide)) (hv.1.app.not (by decide)) (Ct hv.1 hv)
 | iff x y z p hx hy hz ix iy iz=>
  have hv:=(ix.1 rfl).one (fK hx);obtain⟨_,hby⟩:=iy.2.2 rfl;obtain⟨hhz,hbz⟩:=iz.2.2 rfl;have hzz:∃ ks,zN z=iH 29 ks:=by
   cases hz with
   | block ks q hc hk=>exact⟨_,gA _ _ _ _ _ _ _⟩
  obtain⟨zks,hzz⟩:=hzz;refine tX ⟨by rw [cM];exact⟨sN [105,102],_,rfl,by decide⟩,fun rest hrest=>?_⟩;rw [gA,cM];have e:aK (stmtC 28 bz ([x,y,z].map pcN))++rest=sN [105,102]::dB [40]::(aK (pcN x).e++(dB [41]::(aK (pcN y).b++(aK (if (pcN z).has then .bl::kw [101,108,115,101] :: .bl::(pcN z).b else [])++rest)))):=by
   show aK (lW [105,102] (pcN x) (pcN y)++(if (pcN z).has then .bl::kw [101,108,115,101] :: .bl::(pcN z).b else []))++rest=_;unfold lW;rw [bB,vD,kE,iA,bB,iA,kE];simp
  rw [e];refine .up (h:=fun f=>(nL f (dB [40]::(aK (pcN x).e++(dB [41]::(aK (pcN y).b++(aK (if (pcN z).has then .bl::kw [101,108,115,101] :: .bl::(pcN z).b else [])++rest)))))).bind fun e _ l=>(eC f l).bind fun y _ l=>
   if cD l [101,108,115,101] then (eC f l.tail).bind fun z _ l=>.ok (iH 28 [e,y,z]) false l else .ok (iH 28 [e,y,iH 29 []]) false l) (fun f=>by rw [kU,lN];rfl) (.bind (Kh hv) (.bind (hby _) ?_))
  cases hh:(pcN z).has with
  | true=>
   refine .of (h:=fun f=>(eC f (aK (pcN z).b++rest)).bind fun z _ l=>.ok (iH 28 [zN x,zN y,z]) false l) (fun f=>?_) (.bind (hbz rest) (.const _));rw [if_pos rfl,kE,vD,kE,List.cons_append,lN,if_pos (by decide)];rfl
  | false=>
   rw [hzz] at hhz;have hz0:zks=[]:=by
    rw [hh] at hhz;have:(iH 29 zks).kids=zks:=rfl;rw [this] at hhz;cases zks with
    | nil=>rfl
    | cons=>cases hhz
   refine .of (h:=fun f=>.ok (iH 28 [zN x,zN y,zN z]) false rest) (fun f=>?_) (.const _);have e3:(aK (if false=true then Pc.bl::kw [101,108,115,101]::Pc.bl::(pcN z).b else [])++rest)=rest:=rfl;rw [e3,hrest,hzz,hz0];rfl
 | whil x y p hx hy ix iy=>
  have hv:=(ix.1 rfl).one (fK hx);obtain⟨_,hby⟩:=iy.2.2 rfl;refine tX ⟨by rw [cM];exact⟨sN [119,104,105,108,101],_,rfl,by decide⟩,fun rest hrest=>?_⟩;rw [gA,cM];have e:aK (stmtC 30 bz ([x,y].map pcN))++rest=sN [119,104,105,108,101]::dB [40]::(aK (pcN x).e++(dB [41]::(aK (pcN y).b++rest))):=by
   show aK (lW [119,104,105,108,101] (pcN x) (pcN y))++rest=_;unfold lW;rw [vD,kE,iA,bB,iA,kE];simp
  rw [e];refine .up (h:=fun f=>(nL f (dB [40]::(aK (pcN x).e++(dB [41]::(aK (pcN y).b++rest))))).bind fun e _ l=>(eC f l).bind fun y _ l=>.ok (iH 30 [e,y]) false l) (fun f=>by rw [kU,lN,lN];rfl) (.bind (Kh hv) (.bind (hby _) (.const _)))
 | block ks p hc hk ik=>
  refine Sk ⟨?_,fun rest=>?_⟩
  ·rw [cM,gA];show (!ks.isEmpty)=!(ks.map zN).isEmpty;cases ks<;>rfl
  ·rw [cM,gA];exact Dj (fun x hx=>(ik x hx).2.1 rfl) hc rest
def BM:Tok:=⟨6,⟨#[]⟩,0,0⟩
theorem IX {t:Nd} (h:rightN t 3=true):Ev (fun f=>rJ f true (aK (tQ t)++[BM])) (.ok (zN t) false [BM]):=by
 have hr:=EL t 3 (by simp) h;cases hr with
 | block ks p hc hk=>
  have hk':∀ x∈ks,BI x:=fun x hx=>(Qm (hk x hx)).2.1 rfl
  have e:aK (tQ (.mk 29 0 0 bz [] ks p))++[BM]=aK (fO (ks.map pcN))++[BM]:=by
   show aK (rB (ks.map pcN))++[BM]=_;cases ks with
   | nil=>rfl
   | cons x r=>simp only [rB,fO,List.map_cons,List.flatMap_cons,bB,List.cons_append,kE]
  have h1:Ev (fun f=>eK f (ks.map zN) [BM]) (.ok [] (ks.map zN) [BM]):=by
   refine .up (h:=fun _=>.ok [] (ks.map zN) [BM]) (fun f=>?_) (.const _);rw [eK,if_neg (by rintro⟨_,_,h⟩;exact h rfl)]
  have h2:=qQ (rest:=[BM]) rfl ks [] hk' (by simpa using hc) _ h1;rw [e,gA];refine .of (h:=fun f=>((eK f [] (aK (fO (ks.map pcN))++[BM])).bind fun _ ks l=>.ok (iH 29 ks) false l).bind fun e _ l=>if (cur l).kind=6 then .ok e false l else .bad l) (fun f=>rfl) (.bind (.lbind h2 (.const _)) (.of (fun f=>?_) (.const _)));rfl
end Go.Proofs.YtdnnmjhfidimcaaGreatDoor
