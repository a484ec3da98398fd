/- A right tree comes back from its tokens: atoms, statements, programs. -/
import Derived.Test.YtdnnmjhfidimcaaGreatDoorJoint10
namespace Go.Proofs.YtdnnmjhfidimcaaGreatDoor
open Go.RowKit

theorem Hzk {ts:List Tok} {e:Nd} {b nc:Bool} (hf:Firsts ts) (h45:isH ts [45]=false) (h33:isH ts [33]=false) (h:∀ rest,Ev (fun f=>vzd f (ts++rest)) (.ok e b rest)):Unit8 ts e b nc:=
 ⟨hf,h45,h33,fun rest res _ ht=>.up (h:=fun f=>(vzd f (ts++rest)).bind fun e b l=>Azc f e b l) (fun f=>by rw [Cze]) (.bind (h rest) ht)⟩

/-! objects -/
theorem ezl (ns:List ByteArray) (ks:List Nd) (rest:List Tok):Stop 1 (kza (Izc ns (ks.map pcN))++(sgT [125]::rest)):=by
 cases ns with
 | nil=>cases ks<;>exact jzc (by simp)
 | cons s ns=>
  cases ks with
  | nil=>exact jzc (by simp)
  | cons x ks=>
   have e:∃ q,kza (Izc (s::ns) ((x::ks).map pcN))++(sgT [125]::rest)=sgT [44]::q:=by
    simp only [Izc,List.map_cons,List.cons_append,pzd];exact⟨_,rfl⟩
   obtain⟨q,e⟩:=e;rw [e];exact jzc (by simp)
theorem fzl {rest:List Tok} : ∀ (ns:List ByteArray) (ks:List Nd) (an:List ByteArray) (ak:List Nd),ks.length=ns.length→(∀ x∈ks,UnitAt 1 (kza (pcN x).e) (zN x) (Nzg x))→ak.length+ks.length≤40→
  Ev (fun f=>rzf f an ak (kza (Izc ns (ks.map pcN))++(sgT [125]::rest))) (.ok (an++ns) (ak++ks.map zN) rest)
 | [],[],an,ak,_,_,_=>by
  refine .up (h:=fun _=>.ok an ak rest) (fun f=>?_) (by simpa using Ev.const (PL.ok an ak rest));rw [rzf];have:isH (kza (Izc [] (([]:List Nd).map pcN))++(sgT [125]::rest)) [44]=false:=rfl;rw [this,if_neg (by simp)];exact Azi _ _ _
 | s::ns,x::ks,an,ak,hn,h,hl=>by
  have hx:=h x (by simp);have ih:=fzl (rest:=rest) ns ks (an++[s]) (ak++[zN x]) (by simpa using hn) (fun y hy=>h y (by simp [hy])) (by simp at hl ⊢;omega);have e:kza (Izc (s::ns) ((x::ks).map pcN))++(sgT [125]::rest)=sgT [44]::ppT s::sgT [58]::(kza (pcN x).e++(kza (Izc ns (ks.map pcN))++(sgT [125]::rest))):=by
   simp only [Izc,tzi,List.map_cons,Aza,List.cons_append,pzd,rzt,pze,List.append_assoc]
  rw [e];have hw:=hx.whole (by omega) (ezl ns ks rest);refine .up (h:=fun f=>Dze f an ak (ppT s::sgT [58]::(kza (pcN x).e++(kza (Izc ns (ks.map pcN))++(sgT [125]::rest))))) (fun f=>?_) ?_
  ·rw [rzf,Jzc,if_pos ⟨by simp at hl;omega,by decide⟩];rfl
  ·refine .up (h:=fun f=>(rza f 1 (kza (pcN x).e++(kza (Izc ns (ks.map pcN))++(sgT [125]::rest)))).bindL fun e _ l=>rzf f (an++[s]) (ak++[e]) l) (fun f=>?_) (.bindL hw (by simpa using ih));rw [Dze,tzq,Azi]
 | [],x::ks,_,_,hn,_,_=>by simp at hn
 | s::ns,[],_,_,hn,_,_=>by simp at hn
theorem wzx {ns:List ByteArray} {ks:List Nd} (hn:ks.length=ns.length) (h40:ns.length≤40) (hk:∀ x∈ks,UnitAt 1 (kza (pcN x).e) (zN x) (Nzg x)):Unit8 (kza (Czk ns (ks.map pcN))) (.mk 7 0 0 bz ns (ks.map zN) 0) false false:=by
 have h1:∃ q,kza (Czk ns (ks.map pcN))=sgT [123]::q:=by
  cases ns with
  | nil=>cases ks<;>exact⟨_,rfl⟩
  | cons s ns=>cases ks<;>exact⟨_,rfl⟩
 obtain⟨q,hq⟩:=h1;refine Hzk ⟨_,_,hq,by decide⟩ (by rw [hq,Jzc];rfl) (by rw [hq,Jzc];rfl) fun rest=>?_
 have key:Ev (fun f=>bzj f (q++rest)) (.ok ns (ks.map zN) rest):=by
  cases ns with
  | nil=>
   have hk0:ks=[]:=List.length_eq_zero_iff.1 (by simpa using hn);subst hk0;have hq':q=[sgT [125]]:=by have:kza (Czk [] (([]:List Nd).map pcN))=[sgT [123],sgT [125]]:=rfl;rw [this] at hq;injection hq with _ h;exact h.symm
   subst hq';refine .up (h:=fun _=>.ok [] [] rest) (fun f=>?_) (.const _);rw [bzj,List.cons_append,Jzc,if_pos (by decide)];rfl
  | cons s ns=>
   cases ks with
   | nil=>simp at hn
   | cons x ks=>
    have hx:=hk x (by simp);have hq':q=ppT s::sgT [58]::(kza (pcN x).e++(kza (Izc ns (ks.map pcN))++[sgT [125]])):=by
     have:kza (Czk (s::ns) ((x::ks).map pcN))=sgT [123]::ppT s::sgT [58]::(kza (pcN x).e++(kza (Izc ns (ks.map pcN))++[sgT [125]])):=by
      simp only [Czk,tzi,List.map_cons,Aza,List.cons_append,pzd,rzt,pze,nzg,List.append_assoc]
     rw [this] at hq;injection hq with _ h;exact h.symm
    have ih:=fzl (rest:=rest) ns ks [s] [zN x] (by simpa using hn) (fun y hy=>hk y (by simp [hy])) (by simp at hn h40 ⊢;omega);have hw:=hx.whole (by omega) (ezl ns ks rest);have e:q++rest=ppT s::sgT [58]::(kza (pcN x).e++(kza (Izc ns (ks.map pcN))++(sgT [125]::rest))):=by rw [hq'];simp
    rw [e];refine .up (h:=fun f=>Dze f [] [] (ppT s::sgT [58]::(kza (pcN x).e++(kza (Izc ns (ks.map pcN))++(sgT [125]::rest))))) (fun f=>?_) ?_
    ·rw [bzj,qzx,izA s _ (by decide)];rfl
    ·refine .up (h:=fun f=>(rza f 1 (kza (pcN x).e++(kza (Izc ns (ks.map pcN))++(sgT [125]::rest)))).bindL fun e _ l=>rzf f ([]++[s]) ([]++[e]) l) (fun f=>?_) (.bindL hw (by simpa using ih));rw [Dze,tzq,Azi]
 rw [hq];refine .up (h:=fun f=>(bzj f (q++rest)).bind fun ns ks l=>.ok (.mk 7 0 0 bz ns ks 0) false l) (fun f=>?_) (.lbind key (.const _));rw [List.cons_append,vzd];simp [cur,sgT,isH,isT]

/-! functions -/
theorem Rzn {rest:List Tok} : ∀ (ns:List ByteArray) (s:ByteArray) (an:List ByteArray) (f:Nat),ns.length+1≤f→jzj f an (nmT s::(kza (zzf ns)++(sgT [41]::rest)))=.ok (an++s::ns) [] rest
 | [],s,an,f,hf=>by
  obtain⟨f,rfl⟩:∃ f',f=f'+1:=⟨f - 1,by simp at hf;omega⟩
  rw [jzj,uzq];have:isH (kza (zzf [])++(sgT [41]::rest)) [44]=false:=rfl;rw [this,if_neg (by simp)];exact Azi _ _ _
 | n::ns,s,an,f,hf=>by
  obtain⟨f,rfl⟩:∃ f',f=f'+1:=⟨f - 1,by simp at hf;omega⟩
  have e:kza (zzf (n::ns))++(sgT [41]::rest)=sgT [44]::nmT n::(kza (zzf ns)++(sgT [41]::rest)):=by
   simp only [zzf,List.flatMap_cons,List.cons_append,pzd,pze,szx,List.nil_append]
  rw [jzj,uzq,e,Jzc,if_pos ⟨by simp at hf;omega,by decide⟩];show jzj f (an++[s]) (nmT n::(kza (zzf ns)++(sgT [41]::rest)))=_;rw [Rzn ns n (an++[s]) f (by simp at hf;omega)];simp
theorem xzx {ns:List ByteArray} (h:ns.length≤6) (rest:List Tok):Tzh (kza (hzg ns)++(sgT [41]::rest))=.ok ns [] rest:=by
 unfold Tzh;cases ns with
 | nil=>
  have:isH (kza (hzg [])++(sgT [41]::rest)) [41]=true:=rfl;rw [this,if_pos rfl];rfl
 | cons s ns=>
  have e:kza (hzg (s::ns))++(sgT [41]::rest)=nmT s::(kza (zzf ns)++(sgT [41]::rest)):=rfl;rw [e,hzA,if_neg (by simp),Rzn ns s [] 6 (by simp at h;omega)];rfl

/-! statements -/
def vzs (t:Tok):Bool:=Bzi t||[[108,101,116],[112,114,105,110,116],[114,101,116,117,114,110],[100,101,108,101,116,101],[105,102],[119,104,105,108,101]].any (isT t)
def FirstsS (ts:List Tok):Prop:=∃ t r,ts=t::r∧vzs t=true
theorem FirstsS.ofE {ts:List Tok} (h:Firsts ts):FirstsS ts:=by
 obtain⟨t,r,e,h1⟩:=h;exact⟨t,r,e,by unfold vzs;rw [h1];rfl⟩
theorem FirstsS.app {a b:List Tok} (h:FirstsS a):FirstsS (a++b):=by
 obtain⟨t,r,e,h1⟩:=h;exact⟨t,r++b,by rw [e];rfl,h1⟩
theorem FirstsS.not {l:List Tok} (h:FirstsS l):isH l [125]=false∧isH l [101,108,115,101]=false∧(cur l).kind≠6:=by
 obtain⟨t,r,rfl,h1⟩:=h;unfold vzs at h1;rw [Bool.or_eq_true] at h1;rcases h1 with h1 | h1
 ·exact⟨Gzk h1 (by decide),Gzk h1 (by decide),Bzm h1⟩
 ·rw [List.any_eq_true] at h1;obtain⟨x,hx,ht⟩:=h1;refine⟨Qzo ht ?_,Qzo ht ?_,?_⟩
  ·simp only [List.mem_cons,List.not_mem_nil,or_false] at hx;rcases hx with rfl | rfl | rfl | rfl | rfl | rfl<;>rfl
  ·simp only [List.mem_cons,List.not_mem_nil,or_false] at hx;rcases hx with rfl | rfl | rfl | rfl | rfl | rfl<;>rfl
  ·intro e;have e':t.kind=6:=e;unfold isT at ht;rw [e'] at ht;cases ht
def Czm (x:Nd):Prop:=FirstsS (kza (pcN x).s)∧∀ rest,isH rest [101,108,115,101]=false→Ev (fun f=>Eze f (kza (pcN x).s++rest)) (.ok (zN x) false rest)
def Azz (x:Nd):Prop:=(pcN x).has=(!(zN x).kids.isEmpty)∧∀ rest,Ev (fun f=>Xzb f (kza (pcN x).b++rest)) (.ok (zN x) false rest)

theorem dzh {rest:List Tok} (he:isH rest [101,108,115,101]=false):∀ (ks:List Nd) (acc:List Nd),(∀ x∈ks,Czm x)→acc.length+ks.length≤40→∀ res,Ev (fun f=>fzc f (acc++ks.map zN) rest) res→
  Ev (fun f=>fzc f acc (kza (Bzc (ks.map pcN))++rest)) res
 | [],acc,_,_,res,h=>by simpa [Bzc,nzg] using h
 | x::ks,acc,h,hl,res,hr=>by
  obtain⟨hf,hx⟩:=h x (by simp);have ih:=dzh he ks (acc++[zN x]) (fun y hy=>h y (by simp [hy])) (by simp at hl ⊢;omega) res (by simpa using hr);have e:kza (Bzc ((x::ks).map pcN))++rest=kza (pcN x).s++(kza (Bzc (ks.map pcN))++rest):=by
   simp only [Bzc,List.map_cons,List.flatMap_cons,Aza,List.cons_append,pze,List.append_assoc]
  have hst:isH (kza (Bzc (ks.map pcN))++rest) [101,108,115,101]=false:=by
   cases ks with
   | nil=>exact he
   | cons y r=>
    have e2:kza (Bzc ((y::r).map pcN))++rest=kza (pcN y).s++(kza (Bzc (r.map pcN))++rest):=by
     simp only [Bzc,List.map_cons,List.flatMap_cons,Aza,List.cons_append,pze,List.append_assoc]
    rw [e2];exact ((h y (by simp)).1.app).not.2.1
  rw [e];have hn:=(hf.app (b:=kza (Bzc (ks.map pcN))++rest)).not;refine .up (h:=fun f=>(Eze f (kza (pcN x).s++(kza (Bzc (ks.map pcN))++rest))).bindL fun e _ l=>fzc f (acc++[e]) l) (fun f=>?_) (.bindL (hx _ hst) ih);rw [fzc,if_pos ⟨by simp at hl;omega,hn.1,hn.2.2⟩]
theorem Szn {ks:List Nd} (h:∀ x∈ks,Czm x) (hl:ks.length≤40) (rest:List Tok):Ev (fun f=>Xzb f (kza (blockC (ks.map pcN))++rest)) (.ok (ndK 29 (ks.map zN)) false rest):=by
 have e:kza (blockC (ks.map pcN))++rest=sgT [123]::(kza (Bzc (ks.map pcN))++(sgT [125]::rest)):=by
  unfold blockC;rw [pzd,Aza];cases ks<;>simp [pzd,pze,nzg]
 rw [e];have h1:Ev (fun f=>fzc f (ks.map zN) (sgT [125]::rest)) (.ok [] (ks.map zN) (sgT [125]::rest)):=by
  refine .up (h:=fun _=>.ok [] (ks.map zN) (sgT [125]::rest)) (fun f=>?_) (.const _);rw [fzc,Jzc,if_neg (by simp)]
 have h2:=dzh (rest:=sgT [125]::rest) (by rw [Jzc];rfl) ks [] h (by simpa using hl) _ h1;refine .up (h:=fun f=>(fzc f [] (kza (Bzc (ks.map pcN))++(sgT [125]::rest))).bind fun _ ks l=>must [125] l fun l=>.ok (ndK 29 ks) false l) (fun f=>by rw [Xzb,Mze]) (.lbind h2 ?_);exact .of (fun f=>Mze _ _ _) (.const _)
theorem Nzy {ns:List ByteArray} {ks:List Nd} (h6:ns.length≤6) (hl:ks.length≤40) (hk:∀ x∈ks,Czm x):Unit8 (kza (kw [102,110]::sg [40]::(hzg ns++(sg [41] :: .bl::blockC (ks.map pcN))))) (.mk 8 0 0 bz ns (ks.map zN) 0) false false:=by
 have e:kza (kw [102,110]::sg [40]::(hzg ns++(sg [41] :: .bl::blockC (ks.map pcN))))=kwT [102,110]::sgT [40]::(kza (hzg ns)++(sgT [41]::kza (blockC (ks.map pcN)))):=by
  rw [gzj,pzd,Aza,pzd,pze]
 rw [e];refine Hzk ⟨_,_,rfl,by decide⟩ (by rw [Uze];rfl) (by rw [Uze];rfl) fun rest=>?_
 have hb:=Szn hk hl rest;refine .up (h:=fun f=>(Xzb f (kza (blockC (ks.map pcN))++rest)).bind fun b _ l'=>.ok (.mk 8 0 0 bz ns b.kids 0) false l') (fun f=>?_) (.bind hb (.const _));rw [List.cons_append,vzd];have hc:(cur (kwT [102,110]::(sgT [40]::(kza (hzg ns)++(sgT [41]::kza (blockC (ks.map pcN))))++rest))).kind=2:=rfl;have hp:(cur (kwT [102,110]::(sgT [40]::(kza (hzg ns)++(sgT [41]::kza (blockC (ks.map pcN))))++rest))).pl=0:=rfl;rw [hc,hp];simp only [Uze];rw [if_neg (by decide),if_neg (by decide),if_neg (by decide),if_neg (by decide),if_neg (by decide),if_neg (by decide),if_neg (by decide),if_neg (by decide),if_neg (by decide),if_pos (by decide)];show must [40] (sgT [40]::((kza (hzg ns)++(sgT [41]::kza (blockC (ks.map pcN))))++rest)) _=_;rw [Mze];have e2:(kza (hzg ns)++(sgT [41]::kza (blockC (ks.map pcN))))++rest=kza (hzg ns)++(sgT [41]::(kza (blockC (ks.map pcN))++rest)):=by simp
 rw [e2,xzx h6,PL.bind_ok]
theorem Dzm {o:Int} (h:1≤o∧o≤7) (l:List Tok) :
  Bzi (kwT (builtT o).1)=true∧isT (kwT (builtT o).1) [45]=false∧isT (kwT (builtT o).1) [33]=false∧lzg (kwT (builtT o).1::l)=some o∧
  [[110,117,108,108],[116,114,117,101],[102,97,108,115,101],[116,104,105,115],[40],[123],[102,110]].all (fun x=>!isH (kwT (builtT o).1::l) x)=true∧((builtT o).2=1∨(builtT o).2=2):=by
 obtain rfl | rfl | rfl | rfl | rfl | rfl | rfl:o=1∨o=2∨o=3∨o=4∨o=5∨o=6∨o=7:=by omega
 all_goals exact⟨by decide,by decide,by decide,rfl,rfl,by decide⟩
theorem wzs {o:Int} (ho:1≤o∧o≤7) {ks:List Nd} (hc:ks.length=(builtT o).2) (hk:∀ x∈ks,UnitAt 1 (kza (pcN x).e) (zN x) (Nzg x)):Unit8 (kza (kw (builtT o).1::Qze (ks.map pcN))) (ndO 17 o (ks.map zN)) false false:=by
 obtain⟨b1,b2,b3,_,_,b6⟩:=Dzm ho [];rw [gzj];refine Hzk ⟨_,_,rfl,b1⟩ b2 b3 fun rest=>?_
 obtain⟨_,_,_,b4,b5,_⟩:=Dzm ho (kza (Qze (ks.map pcN))++rest);simp only [List.all_cons,List.all_nil,Bool.and_eq_true,Bool.not_eq_true'] at b5;obtain⟨n1,n2,n3,n4,n5,n6,n7,_⟩:=b5;have head:∀ f,vzd (f+1) (kwT (builtT o).1::kza (Qze (ks.map pcN))++rest)=must [40] (kza (Qze (ks.map pcN))++rest) fun l=>(rza f 1 l).bind fun e _ l=>
     if (builtT o).2=2 then must [44] l fun l=>(rza f 1 l).bind fun e' _ l=>must [41] l fun l=>.ok (ndO 17 o [e,e']) false l
     else must [41] l fun l=>.ok (ndO 17 o [e]) false l:=by
  intro f;rw [List.cons_append,vzd];have hcur:(cur (kwT (builtT o).1::(kza (Qze (ks.map pcN))++rest))).kind=2:=rfl;rw [hcur,n1,n2,n3,n4,n5,n6,n7,b4,if_neg (by decide),if_neg (by decide),if_neg (by decide)];rfl
 refine .up head ?_;have e:kza (Qze (ks.map pcN))++rest=sgT [40]::(kza (Gzf (ks.map pcN))++(sgT [41]::rest)):=by
  unfold Qze;rw [pzd,Aza];simp [pzd,nzg]
 rw [e];refine .of (fun f=>Mze _ _ _) ?_;rcases b6 with b6 | b6
 ·rw [b6] at hc;obtain⟨x,rfl⟩:=List.length_eq_one_iff.1 hc;have hw:=(hk x (by simp)).whole (by omega) (rest:=sgT [41]::rest) (jzc (by simp));have e2:kza (Gzf ([x].map pcN))++(sgT [41]::rest)=kza (pcN x).e++(sgT [41]::rest):=by simp [Gzf,Hzc]
  rw [e2];refine .bind hw (.of (fun f=>?_) (.const _));rw [b6,if_neg (by decide),Mze];rfl
 ·rw [b6] at hc;obtain⟨x,y,rfl⟩:=Uzg hc;have hx:=hk x (by simp);have hy:=hk y (by simp);have hw:=hx.whole (by omega) (rest:=sgT [44]::(kza (pcN y).e++(sgT [41]::rest))) (jzc (by simp));have hv:=hy.whole (by omega) (rest:=sgT [41]::rest) (jzc (by simp));have e2:kza (Gzf ([x,y].map pcN))++(sgT [41]::rest)=kza (pcN x).e++(sgT [44]::(kza (pcN y).e++(sgT [41]::rest))):=by
   simp only [Gzf,Hzc,List.map_cons,List.map_nil,List.flatMap_cons,List.flatMap_nil,List.append_nil,Aza,pzd,pze,List.append_assoc,List.cons_append]
  rw [e2];refine .bind hw ?_;refine .of (h:=fun f=>(rza f 1 (kza (pcN y).e++(sgT [41]::rest))).bind fun e' _ l=>must [41] l fun l=>.ok (ndO 17 o [zN x,e']) false l) (fun f=>?_) (.bind hv (.of (fun f=>Mze _ _ _) (.const _)));rw [b6,if_pos rfl,Mze]

theorem fzk {ks:List Nd} (h:∀ x∈ks,Rt 1 x) (hb:∀ x∈ks,BackE x):∀ x∈ks,UnitAt 1 (kza (pcN x).e) (zN x) (Nzg x):=fun x hx=>(hb x hx).one (wzc (h x hx))

theorem Ezm {s:ByteArray} {x:Nd} (hx:Rt 1 x) (ix:BackE x):Unit8 (kza (uzi (pcN x) s)) (ndS 13 s [zN x]) true true:=by
 obtain⟨b,u⟩:=Zzg ix (wzc hx) 8 (by omega);unfold uzi;rw [Aza,pzd,rzt,nzg];exact vzx u s
theorem zzj {x y:Nd} (hx:Rt 1 x) (hy:Rt 1 y) (ix:BackE x) (iy:BackE y) (nd:Bool):Unit8 (kza (Azf (pcN x) (pcN y))) (ndK 14 [zN x,zN y]) true nd:=by
 obtain⟨b,u⟩:=Zzg ix (wzc hx) 8 (by omega);unfold Azf;rw [Aza,pzd,Aza,pzd,nzg];exact uzs u (iy.one (wzc hy))
theorem Ozy (l:List Tok):Stop 1 (sgT [61]::l):=by
 refine⟨⟨rfl,rfl,rfl⟩,fun r' _=>?_⟩;unfold kzf sgR;split<;>rfl
theorem azf {ts:List Tok} {e:Nd} (h1:isH ts [105,102]=false) (h2:isH ts [119,104,105,108,101]=false) {rest:List Tok} (h:Ev (fun f=>Jzd f ts) (.ok e false (sgT [59]::rest))):Ev (fun f=>Eze f ts) (.ok e false rest):=by
 refine .up (h:=fun f=>(Jzd f ts).bind fun e _ l=>must [59] l fun l=>.ok e false l) (fun f=>?_) (.bind h (.of (fun f=>Mze _ _ _) (.const _)));rw [Eze,h1,h2];rfl
theorem fzn {ts rest:List Tok} {e:Nd} {b:Bool} (hf:Firsts ts) (h:UnitAt 1 ts e b):Ev (fun f=>Jzd f (ts++(sgT [59]::rest))) (.ok (ndK 32 [e]) false (sgT [59]::rest)):=by
 have hw:=h.whole (by omega) (rest:=sgT [59]::rest) (jzc (by simp));have hn:=fun x hx=>(hf.app (b:=sgT [59]::rest)).not (x:=x) hx
 refine .up (h:=fun f=>(rza f 1 (ts++(sgT [59]::rest))).bind fun e b l=>if b=true∧isH l [61]=true then (rza f 1 l.tail).bind fun v _ l=>.ok (becomeN e v) false l else .ok (ndK 32 [e]) false l) (fun f=>?_) (.bind hw (.of (fun f=>?_) (.const _)))
 ·rw [Jzd,hn _ (by decide),hn _ (by decide),hn _ (by decide),hn _ (by decide)];rfl
 ·rw [Jzc,if_neg (by intro h;exact absurd h.2 (by decide))]
theorem Szo {ts tv rest:List Tok} {e v:Nd} {b:Bool} (hf:Firsts ts) (h:UnitAt 1 ts e true) (hv:UnitAt 1 tv v b):Ev (fun f=>Jzd f (ts++(sgT [61]::(tv++(sgT [59]::rest))))) (.ok (becomeN e v) false (sgT [59]::rest)):=by
 have hw:=h.whole (by omega) (rest:=sgT [61]::(tv++(sgT [59]::rest))) (Ozy _);have hw2:=hv.whole (by omega) (rest:=sgT [59]::rest) (jzc (by simp));have hn:=fun x hx=>(hf.app (b:=sgT [61]::(tv++(sgT [59]::rest)))).not (x:=x) hx
 refine .up (h:=fun f=>(rza f 1 (ts++(sgT [61]::(tv++(sgT [59]::rest))))).bind fun e b l=>if b=true∧isH l [61]=true then (rza f 1 l.tail).bind fun v _ l=>.ok (becomeN e v) false l else .ok (ndK 32 [e]) false l) (fun f=>?_) (.bind hw ?_)
 ·rw [Jzd,hn _ (by decide),hn _ (by decide),hn _ (by decide),hn _ (by decide)];rfl
 ·refine .of (h:=fun f=>(rza f 1 (tv++(sgT [59]::rest))).bind fun v _ l=>.ok (becomeN e v) false l) (fun f=>?_) (.bind hw2 (.const _));rw [Jzc,if_pos ⟨rfl,by decide⟩];rfl
theorem yzg (x:Px) (R:List Pc):kza (ozd x++R)=sgT [61]::(kza x.e++kza R):=by
 unfold ozd;rw [List.cons_append,List.cons_append,List.cons_append,pze,pzd,pze,Aza]
theorem Czi {ts:List Tok} {e:Nd} (h:UnitAt 1 ts e true) {v:Nd} (hv:UnitAt 1 (kza (pcN v).e) (zN v) (Nzg v)) {x:Nd} (ht:kza (pcN x).s=ts++(sgT [61]::(kza (pcN v).e++[sgT [59]]))) (hz:becomeN e (zN v)=zN x):Czm x:=by
 have hf:=h.1;refine⟨by rw [ht];exact .ofE hf.app,fun rest _=>?_⟩;rw [ht,← hz];have e2:ts++(sgT [61]::(kza (pcN v).e++[sgT [59]]))++rest=ts++(sgT [61]::(kza (pcN v).e++(sgT [59]::rest))):=by simp
 rw [e2];exact azf (hf.app.not (by decide)) (hf.app.not (by decide)) (Szo hf h hv)
theorem Tzn {key:List UInt8} {k:Int} (hk:key=[112,114,105,110,116]∧k=27∨key=[114,101,116,117,114,110]∧k=31) {ts rest:List Tok} {e:Nd} {b:Bool} (h:UnitAt 1 ts e b) :
  Ev (fun f=>Eze f (kwT key::(ts++(sgT [59]::rest)))) (.ok (ndK k [e]) false rest):=by
 have hw:=h.whole (by omega) (rest:=sgT [59]::rest) (jzc (by simp));refine azf (by rw [Uze];rcases hk with ⟨rfl,_⟩ | ⟨rfl,_⟩<;>rfl) (by rw [Uze];rcases hk with ⟨rfl,_⟩ | ⟨rfl,_⟩<;>rfl) ?_;refine .up (h:=fun f=>(rza f 1 (ts++(sgT [59]::rest))).bind fun e _ l=>.ok (ndK k [e]) false l) (fun f=>?_) (.bind hw (.const _));rw [Jzd];rcases hk with ⟨rfl,rfl⟩ | ⟨rfl,rfl⟩<;>simp only [Uze]<;>rfl
theorem xzq {ts rest:List Tok} {e:Nd} {nc:Bool} (h:Unit8 ts e true nc) (h5:e.kind≠5):Ev (fun f=>Eze f (kwT [100,101,108,101,116,101]::(ts++(sgT [59]::rest)))) (.ok (if e.kind=13 then ndS 25 e.str e.kids else ndK 26 e.kids) false rest):=by
 refine azf (by rw [Uze];rfl) (by rw [Uze];rfl) ?_;have hp:Ev (fun f=>Cze f (ts++(sgT [59]::rest))) (.ok e true (sgT [59]::rest)):=h.2.2.2 _ _ (fun _=>by rw [Jzc];rfl) (Ozn (jzc (c:=59) (by simp)).1);refine .up (h:=fun f=>(Cze f (ts++(sgT [59]::rest))).bind fun e b l=>if b=true∧e.kind≠5 then .ok (if e.kind=13 then ndS 25 e.str e.kids else ndK 26 e.kids) false l else .bad l) (fun f=>?_) (.bind hp (.of (fun f=>?_) (.const _)))
 ·rw [Jzd];simp only [Uze];rfl
 ·rw [if_pos ⟨rfl,h5⟩]
theorem szt {ts rest:List Tok} {e:Nd} {b:Bool} (h:UnitAt 1 ts e b):Ev (fun f=>Mzf f (sgT [40]::(ts++(sgT [41]::rest)))) (.ok e false rest):=by
 have hw:=h.whole (by omega) (rest:=sgT [41]::rest) (jzc (by simp));exact .up (h:=fun f=>(rza f 1 (ts++(sgT [41]::rest))).bind fun e _ l=>must [41] l fun l=>.ok e false l) (fun f=>by rw [Mzf,Mze]) (.bind hw (.of (fun f=>Mze _ _ _) (.const _)))

def tzt (a:Nat) (t:Nd):Prop:=(a=1→BackE t)∧(a=2→Czm t)∧(a=3→Azz t)
theorem Izf {t:Nd} (h:BackE t):tzt 1 t:=⟨fun _=>h,fun h=>(by cases h),fun h=>(by cases h)⟩
theorem Dzi {t:Nd} (h:Czm t):tzt 2 t:=⟨fun h=>(by cases h),fun _=>h,fun h=>(by cases h)⟩
theorem JzA {t:Nd} (h:Azz t):tzt 3 t:=⟨fun h=>(by cases h),fun h=>(by cases h),fun _=>h⟩

theorem Pzy {a:Nat} {t:Nd} (h:Rt a t):tzt a t:=by
 induction h with
 | null p=>exact Izf (Gzd (ozf (t:=kwT [110,117,108,108]) (by decide) (by decide) (by decide) fun f rest=>by rw [vzd];rfl) (by simp only [azd,Nd.kind,Nd.op];decide))
 | bool n p hn=>
  rcases hn with rfl | rfl
  ·exact Izf (Gzd (ozf (t:=kwT [102,97,108,115,101]) (by decide) (by decide) (by decide) fun f rest=>by rw [vzd];rfl) (by simp only [azd,Nd.kind,Nd.op];decide))
  ·exact Izf (Gzd (ozf (t:=kwT [116,114,117,101]) (by decide) (by decide) (by decide) fun f rest=>by rw [vzd];rfl) (by simp only [azd,Nd.kind,Nd.op];decide))
 | int n p hn=>exact Izf (Gzd (ozf (t:=⟨3,⟨(digs n).toArray⟩,n,0⟩) rfl rfl rfl fun f rest=>by rw [vzd];rfl) (by simp only [azd,Nd.kind,Nd.op];decide))
 | str s p hs=>exact Izf (Gzd (ozf (t:=⟨4,s,0,0⟩) rfl rfl rfl fun f rest=>by rw [vzd];rfl) (by simp only [azd,Nd.kind,Nd.op];decide))
 | name s p hs=>exact Izf (Gzd (ozf (t:=nmT s) rfl rfl rfl fun f rest=>by rw [vzd];rfl) (by simp only [azd,Nd.kind,Nd.op];decide))
 | this p=>exact Izf (Gzd (ozf (t:=kwT [116,104,105,115]) (by decide) (by decide) (by decide) fun f rest=>by rw [vzd];rfl) (by simp only [azd,Nd.kind,Nd.op];decide))
 | obj ns ks p hl hm hns hk ih=>
  refine Izf (Gzd ?_ (by simp only [azd,Nd.kind,Nd.op];decide));rw [Lzc,izb];exact wzx hl hm (fzk hk fun x hx=>(ih x hx).1 rfl)
 | fn ns ks p hm hns hc hk ih=>
  refine Izf (Gzd ?_ (by simp only [azd,Nd.kind,Nd.op];decide));rw [Lzc,izb];exact Nzy hm hc fun x hx=>(ih x hx).2.1 rfl
 | un o x p ho hx ix=>
  have hr:azd (.mk 9 o 0 bz [] [x] p)=7:=by simp only [azd,Nd.kind,Nd.op,rankT];rfl
  refine Izf (zzl (by omega) ?_);rw [hr,Lzc,izb];obtain⟨b,u⟩:=yzj (ix.1 rfl) (wzc hx) (r:=7) (by omega);have hu:=u.2;rw [if_neg (by omega)] at hu;rcases ho with rfl | rfl
  ·refine⟨⟨sgT [45],_,rfl,by decide⟩,?_⟩;rw [if_neg (by omega)];intro rest hrest;refine .up (h:=fun f=>(rza f 7 (kza (Fzd (pcN x) ((7:Nat):Int))++rest)).bind fun e _ l=>.ok (ndO 9 1 [e]) false l) (fun f=>?_) (.bind (hu rest hrest) (.const _));show rza (f+1) 7 (sgT [45]::(kza (Fzd (pcN x) ((7:Nat):Int))++rest))=_;rw [rza,Jzc];rfl
  ·refine⟨⟨sgT [33],_,rfl,by decide⟩,?_⟩;rw [if_neg (by omega)];intro rest hrest;refine .up (h:=fun f=>(rza f 7 (kza (Fzd (pcN x) ((7:Nat):Int))++rest)).bind fun e _ l=>.ok (ndO 9 2 [e]) false l) (fun f=>?_) (.bind (hu rest hrest) (.const _));show rza (f+1) 7 (sgT [33]::(kza (Fzd (pcN x) ((7:Nat):Int))++rest))=_;rw [rza,Jzc,Jzc];rfl
 | bin o x y p ho hx hy ix iy=>
  obtain⟨r,e,r3,r6,_,_⟩:=Pzn ho [];have hr:azd (.mk 10 o 0 bz [] [x,y] p)=r:=by simp only [azd,Nd.kind,Nd.op,e];omega
  refine Izf (zzl (by omega) ?_);rw [hr,Lzc,izb];show UnitAt r (kza (Zze (rankT 10 o) (signT o) (pcN x) (pcN y))) (ndO 10 o [zN x,zN y]) false;rw [e];refine Nzh (by omega) r6 (fun l=>?_) (ix.1 rfl) (iy.1 rfl) (wzc hx) (wzc hy);obtain⟨r',e',_,_,h3,h4⟩:=Pzn ho l;have:r'=r:=by omega
  subst this;exact⟨h3,h4⟩
 | and x y p hx hy ix iy=>
  refine Izf (zzl (by simp only [azd,Nd.kind,Nd.op];decide) ?_);rw [Lzc,izb];exact Nzh (r:=2) (by omega) (by omega) uzx (ix.1 rfl) (iy.1 rfl) (wzc hx) (wzc hy)
 | or x y p hx hy ix iy=>
  refine Izf (zzl (by simp only [azd,Nd.kind,Nd.op];decide) ?_);rw [Lzc,izb];exact Nzh (r:=1) (by omega) (by omega) Mzy (ix.1 rfl) (iy.1 rfl) (wzc hx) (wzc hy)
 | get s x p hs hx ix=>
  refine Izf (Gzd ?_ (by simp only [azd,Nd.kind,Nd.op];decide));rw [Lzc,izb];exact Ezm hx (ix.1 rfl)
 | index x y p hx hy ix iy=>
  refine Izf (Gzd ?_ (by simp only [azd,Nd.kind,Nd.op];decide));rw [Lzc,izb];exact zzj hx hy (ix.1 rfl) (iy.1 rfl) _
 | call x ks p hc hx hk ix ik=>
  refine Izf (Gzd ?_ (by simp only [azd,Nd.kind,Nd.op];decide));rw [Lzc,izb];show Unit8 (kza (Fzd (pcN x) (if (pcN x).kind=13 then 9 else 8)++Qze (ks.map pcN))) (ndK 15 (zN x::ks.map zN)) false false;rw [Aza,tzx];obtain⟨b,u⟩:=Zzg (ix.1 rfl) (wzc hx) (if x.kind=13 then 9 else 8) (by split<;>omega);have hnc:decide (x.kind=13∧(if x.kind=13 then (9:Int) else 8)≤rankT x.kind x.op)=false:=by
   rw [decide_eq_false_iff_not];rintro⟨h1,h2⟩;rw [h1] at h2;simp [rankT] at h2
  rw [hnc] at u;exact Azv u (fzk hk fun x hx=>(ik x hx).1 rfl) hc
 | meth s x ks p hs hc hx hk ix ik=>
  refine Izf (Gzd ?_ (by simp only [azd,Nd.kind,Nd.op];decide));rw [Lzc,izb];show Unit8 (kza (uzi (pcN x) s++Qze (ks.map pcN))) (ndS 16 s (zN x::ks.map zN)) false false;obtain⟨b,u⟩:=Zzg (ix.1 rfl) (wzc hx) 8 (by omega);have:=Bzv u s (fzk hk fun x hx=>(ik x hx).1 rfl) hc;unfold uzi;rw [Aza,Aza,pzd,rzt,nzg,List.append_assoc];exact this
 | built o ks p ho hc hk ik=>
  refine Izf (Gzd ?_ (by simp [azd,Nd.kind,rankT]));rw [Lzc,izb];exact wzs ho hc (fzk hk fun x hx=>(ik x hx).1 rfl)
 | slet s x p hs hx ix=>
  refine Dzi ⟨⟨kwT [108,101,116],_,rfl,by decide⟩,fun rest _=>?_⟩;rw [Lzc,izb];have hv:=(ix.1 rfl).one (wzc hx);have hw:=hv.whole (by omega) (rest:=sgT [59]::rest) (jzc (by simp));have e:kza (stmtC 21 s ([x].map pcN))++rest=kwT [108,101,116]::nmT s::sgT [61]::(kza (pcN x).e++(sgT [59]::rest)):=by
   show kza (kw [108,101,116] :: .bl::nm s::(ozd (pcN x)++[sg [59]]))++rest=_;rw [gzj,pze,szx,yzg,pzd,nzg];simp
  rw [e];refine azf (by rw [Uze];rfl) (by rw [Uze];rfl) ?_;refine .up (h:=fun f=>(rza f 1 (kza (pcN x).e++(sgT [59]::rest))).bind fun e _ l'=>.ok (.mk 21 0 0 s [] [e] 0) false l') (fun f=>?_) (.bind hw (.const _));rw [Jzd,Uze,if_pos (by decide)];show Bze false (nmT s::sgT [61]::(kza (pcN x).e++(sgT [59]::rest))) _=_;rw [rzx,Mze];rfl
 | assign s x p hs hx ix=>
  have hn:BackE (.mk 5 0 0 s [] [] p):=Gzd (ozf (t:=nmT s) rfl rfl rfl fun f rest=>by rw [vzd];rfl) (by simp only [azd,Nd.kind,Nd.op];decide);refine Dzi (Czi (ts:=[nmT s]) (e:=.mk 5 0 0 s [] [] 0) (hn.one (by simp only [azd,Nd.kind,Nd.op];decide)) ((ix.1 rfl).one (wzc hx)) ?_ ?_)
  ·rw [izb];show kza (nm s::(ozd (pcN x)++[sg [59]]))=_;rw [szx,yzg];rfl
  ·rw [Lzc];rfl
 | set s x y p hs hx hy ix iy=>
  have hg:=Ezm (s:=s) hx (ix.1 rfl);refine Dzi (Czi (hg.at7.to (by omega) (by omega)) ((iy.1 rfl).one (wzc hy)) ?_ ?_)
  ·rw [izb];show kza (uzi (pcN x) s++ozd (pcN y)++[sg [59]])=_;rw [List.append_assoc,Aza,yzg];rfl
  ·rw [Lzc];rfl
 | setix x y z p hx hy hz ix iy iz=>
  have hg:=zzj hx hy (ix.1 rfl) (iy.1 rfl) false;refine Dzi (Czi (hg.at7.to (by omega) (by omega)) ((iz.1 rfl).one (wzc hz)) ?_ ?_)
  ·rw [izb];show kza (Azf (pcN x) (pcN y)++ozd (pcN z)++[sg [59]])=_;rw [List.append_assoc,Aza,yzg];rfl
  ·rw [Lzc];rfl
 | del s x p hs hx ix=>
  refine Dzi ⟨⟨kwT [100,101,108,101,116,101],_,rfl,by decide⟩,fun rest _=>?_⟩;rw [Lzc,izb];have e:kza (stmtC 25 s ([x].map pcN))++rest=kwT [100,101,108,101,116,101]::(kza (uzi (pcN x) s)++(sgT [59]::rest)):=by
   show kza (kw [100,101,108,101,116,101] :: .bl::(uzi (pcN x) s++[sg [59]]))++rest=_;rw [gzj,pze,Aza,pzd,nzg];simp
  rw [e];exact xzq (Ezm hx (ix.1 rfl)) (by simp [ndS,Nd.kind])
 | delix x y p hx hy ix iy=>
  refine Dzi ⟨⟨kwT [100,101,108,101,116,101],_,rfl,by decide⟩,fun rest _=>?_⟩;rw [Lzc,izb];have e:kza (stmtC 26 bz ([x,y].map pcN))++rest=kwT [100,101,108,101,116,101]::(kza (Azf (pcN x) (pcN y))++(sgT [59]::rest)):=by
   show kza (kw [100,101,108,101,116,101] :: .bl::(Azf (pcN x) (pcN y)++[sg [59]]))++rest=_;rw [gzj,pze,Aza,pzd,nzg];simp
  rw [e];exact xzq (zzj hx hy (ix.1 rfl) (iy.1 rfl) false) (by simp [ndK,Nd.kind])
 | print x p hx ix=>
  refine Dzi ⟨⟨kwT [112,114,105,110,116],_,rfl,by decide⟩,fun rest _=>?_⟩;rw [Lzc,izb];have e:kza (stmtC 27 bz ([x].map pcN))++rest=kwT [112,114,105,110,116]::(kza (pcN x).e++(sgT [59]::rest)):=by
   show kza (kw [112,114,105,110,116] :: .bl::((pcN x).e++[sg [59]]))++rest=_;rw [gzj,pze,Aza,pzd,nzg];simp
  rw [e];exact Tzn (.inl ⟨rfl,rfl⟩) ((ix.1 rfl).one (wzc hx))
 | ret x p hx ix=>
  refine Dzi ⟨⟨kwT [114,101,116,117,114,110],_,rfl,by decide⟩,fun rest _=>?_⟩;rw [Lzc,izb];have e:kza (stmtC 31 bz ([x].map pcN))++rest=kwT [114,101,116,117,114,110]::(kza (pcN x).e++(sgT [59]::rest)):=by
   show kza (kw [114,101,116,117,114,110] :: .bl::((pcN x).e++[sg [59]]))++rest=_;rw [gzj,pze,Aza,pzd,nzg];simp
  rw [e];exact Tzn (.inr ⟨rfl,rfl⟩) ((ix.1 rfl).one (wzc hx))
 | sexpr x p hx ix=>
  have hv:=(ix.1 rfl).one (wzc hx);have e0:kza (pcN (.mk 32 0 0 bz [] [x] p)).s=kza (pcN x).e++[sgT [59]]:=by
   rw [izb];show kza ((pcN x).e++[sg [59]])=_;rw [Aza];rfl
  refine Dzi ⟨by rw [e0];exact .ofE hv.1.app,fun rest _=>?_⟩;rw [e0,Lzc,List.append_assoc];exact azf (hv.1.app.not (by decide)) (hv.1.app.not (by decide)) (fzn hv.1 hv)
 | iff x y z p hx hy hz ix iy iz=>
  have hv:=(ix.1 rfl).one (wzc hx);obtain⟨_,hby⟩:=iy.2.2 rfl;obtain⟨hhz,hbz⟩:=iz.2.2 rfl;have hzz:∃ ks,zN z=ndK 29 ks:=by
   cases hz with
   | block ks q hc hk=>exact⟨_,Lzc _ _ _ _ _ _ _⟩
  obtain⟨zks,hzz⟩:=hzz;refine Dzi ⟨by rw [izb];exact⟨kwT [105,102],_,rfl,by decide⟩,fun rest hrest=>?_⟩;rw [Lzc,izb];have e:kza (stmtC 28 bz ([x,y,z].map pcN))++rest=kwT [105,102]::sgT [40]::(kza (pcN x).e++(sgT [41]::(kza (pcN y).b++(kza (if (pcN z).has then .bl::kw [101,108,115,101] :: .bl::(pcN z).b else [])++rest)))):=by
   show kza (dzf [105,102] (pcN x) (pcN y)++(if (pcN z).has then .bl::kw [101,108,115,101] :: .bl::(pcN z).b else []))++rest=_;unfold dzf;rw [Aza,gzj,pze,pzd,Aza,pzd,pze];simp
  rw [e];refine .up (h:=fun f=>(Mzf f (sgT [40]::(kza (pcN x).e++(sgT [41]::(kza (pcN y).b++(kza (if (pcN z).has then .bl::kw [101,108,115,101] :: .bl::(pcN z).b else [])++rest)))))).bind fun e _ l=>(Xzb f l).bind fun y _ l=>
   if isH l [101,108,115,101] then (Xzb f l.tail).bind fun z _ l=>.ok (ndK 28 [e,y,z]) false l else .ok (ndK 28 [e,y,ndK 29 []]) false l) (fun f=>by rw [Eze,Uze];rfl) (.bind (szt hv) (.bind (hby _) ?_))
  cases hh:(pcN z).has with
  | true=>
   refine .of (h:=fun f=>(Xzb f (kza (pcN z).b++rest)).bind fun z _ l=>.ok (ndK 28 [zN x,zN y,z]) false l) (fun f=>?_) (.bind (hbz rest) (.const _));rw [if_pos rfl,pze,gzj,pze,List.cons_append,Uze,if_pos (by decide)];rfl
  | false=>
   rw [hzz] at hhz;have hz0:zks=[]:=by
    rw [hh] at hhz;have:(ndK 29 zks).kids=zks:=rfl;rw [this] at hhz;cases zks with
    | nil=>rfl
    | cons=>cases hhz
   refine .of (h:=fun f=>.ok (ndK 28 [zN x,zN y,zN z]) false rest) (fun f=>?_) (.const _);have e3:(kza (if false=true then Pc.bl::kw [101,108,115,101]::Pc.bl::(pcN z).b else [])++rest)=rest:=rfl;rw [e3,hrest,hzz,hz0];rfl
 | whil x y p hx hy ix iy=>
  have hv:=(ix.1 rfl).one (wzc hx);obtain⟨_,hby⟩:=iy.2.2 rfl;refine Dzi ⟨by rw [izb];exact⟨kwT [119,104,105,108,101],_,rfl,by decide⟩,fun rest hrest=>?_⟩;rw [Lzc,izb];have e:kza (stmtC 30 bz ([x,y].map pcN))++rest=kwT [119,104,105,108,101]::sgT [40]::(kza (pcN x).e++(sgT [41]::(kza (pcN y).b++rest))):=by
   show kza (dzf [119,104,105,108,101] (pcN x) (pcN y))++rest=_;unfold dzf;rw [gzj,pze,pzd,Aza,pzd,pze];simp
  rw [e];refine .up (h:=fun f=>(Mzf f (sgT [40]::(kza (pcN x).e++(sgT [41]::(kza (pcN y).b++rest))))).bind fun e _ l=>(Xzb f l).bind fun y _ l=>.ok (ndK 30 [e,y]) false l) (fun f=>by rw [Eze,Uze,Uze];rfl) (.bind (szt hv) (.bind (hby _) (.const _)))
 | block ks p hc hk ik=>
  refine JzA ⟨?_,fun rest=>?_⟩
  ·rw [izb,Lzc];show (!ks.isEmpty)=!(ks.map zN).isEmpty;cases ks<;>rfl
  ·rw [izb,Lzc];exact Szn (fun x hx=>(ik x hx).2.1 rfl) hc rest

def Fzm:Tok:=⟨6,⟨#[]⟩,0,0⟩
theorem xzs {t:Nd} (h:rightN t 3=true):Ev (fun f=>wzh f true (kza (wzi t)++[Fzm])) (.ok (zN t) false [Fzm]):=by
 have hr:=rzp t 3 (by simp) h;cases hr with
 | block ks p hc hk=>
  have hk':∀ x∈ks,Czm x:=fun x hx=>(Pzy (hk x hx)).2.1 rfl
  have e:kza (wzi (.mk 29 0 0 bz [] ks p))++[Fzm]=kza (Bzc (ks.map pcN))++[Fzm]:=by
   show kza (qzh (ks.map pcN))++[Fzm]=_;cases ks with
   | nil=>rfl
   | cons x r=>simp only [qzh,Bzc,List.map_cons,List.flatMap_cons,Aza,List.cons_append,pze]
  have h1:Ev (fun f=>fzc f (ks.map zN) [Fzm]) (.ok [] (ks.map zN) [Fzm]):=by
   refine .up (h:=fun _=>.ok [] (ks.map zN) [Fzm]) (fun f=>?_) (.const _);rw [fzc,if_neg (by rintro⟨_,_,h⟩;exact h rfl)]
  have h2:=dzh (rest:=[Fzm]) rfl ks [] hk' (by simpa using hc) _ h1;rw [e,Lzc];refine .of (h:=fun f=>((fzc f [] (kza (Bzc (ks.map pcN))++[Fzm])).bind fun _ ks l=>.ok (ndK 29 ks) false l).bind fun e _ l=>if (cur l).kind=6 then .ok e false l else .bad l) (fun f=>rfl) (.bind (.lbind h2 (.const _)) (.of (fun f=>?_) (.const _)));rfl

end Go.Proofs.YtdnnmjhfidimcaaGreatDoor
