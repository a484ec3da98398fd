/- Bytes of the call's own that grow. Slices of tokens of the call's own. What follows of what Parse tells. -/
import Derived.Test.YtdnnmjhfidimcaaGreatDoorJoint1
import Derived.Test.YtdnnmjhfidimcaaGreatDoorBld
import Derived.Laws.BytesArg
import Derived.Deep.RegionLaw
import Derived.Test.YtdnnmjhfidimcaaGreatDoorJoint28
import Derived.Test.YtdnnmjhfidimcaaGreatDoorJoint11
import Derived.Test.YtdnnmjhfidimcaaGreatDoorJoint23
import Derived.Test.YtdnnmjhfidimcaaGreatDoorPsMay
namespace Go.Proofs.YtdnnmjhfidimcaaGreatDoor
open Go.RowKit
def fV (l:List Tok):List Value:=l.flatMap Tok.cells
theorem yC (l m:List Tok):fV (l++m)=fV l++fV m:=by simp [fV]
theorem CS (l:List Tok):∀ u∈fV l,u.oneCell'=true:=by
 intro u hu;simp only [fV,List.mem_flatMap,Tok.cells] at hu;obtain⟨t,_,hu⟩:=hu;simp at hu;rcases hu with rfl | rfl | rfl | rfl<;>rfl
def NU (T:TypeId) (B:Nat) (v:Value) (l:List Tok) (w:World):Prop:=w.ownsRow B T 4 v l.length (fV l)
theorem yM (T:TypeId) (B:Nat) (w:World):NU T B (.slice none 0 0) [] w:=⟨rfl,.inl ⟨rfl,rfl⟩⟩
theorem BS {T:TypeId} {B:Nat} {v:Value} {l:List Tok} {w:World} (h:NU T B v l w):∃ ao cap,v=.slice ao l.length cap:=by
 rcases h.2 with ⟨h1,h2⟩ | ⟨g,cap,cur,h1,_⟩
 ·exact⟨none,0,by rw [h1,h2]⟩
 ·exact⟨_,_,h1⟩
theorem MK {T:TypeId} {B:Nat} {v:Value} {l:List Tok} {a b:World} (h:NU T B v l a) (k:Below a.heap.size a b):NU T B v l b:=by
 refine⟨h.1,?_⟩;rcases h.2 with h1 | ⟨g,cap,cur,h1,h2,h3,h4⟩
 ·exact .inl h1
 ·refine .inr ⟨g,cap,cur,h1,h2,?_,h4⟩;rw [k.block g (by
   rcases Nat.lt_or_ge g a.heap.size with h | h
   ·exact h
   ·rw [Array.getElem?_eq_none h] at h3;cases h3)]
  exact h3
theorem Qz:∃ i0,Tryz.prog.info? 67=some i0∧i0.zero=some (.agg #[.int .i64 0,.string ⟨#[]⟩,.int .i64 0,.int .i64 0])∧i0.size=4∧i0.bytes=40:=
 info_parts (show (Tryz.prog.info? 67).map (fun i=>(i.zero,i.size,i.bytes))=some (some (.agg #[.int .i64 0,.string ⟨#[]⟩,.int .i64 0,.int .i64 0]),4,40) by kernel_rfl)
theorem PZ:Tryz.prog.underlying 62=some (.slice 67):=by kernel_rfl
theorem ID {ops:Array Oper} {rest:List Oper} {o:Oper} {a:Act} {Q:Exit→Act→World→Prop} {w:World} (hgd:o.guard=none) (s x:Operand)
  (ho:o.op=.call { callee:=.builtin .append,args:=#[s,x],argTypes:=#[62,62] })
  (B:Nat) (l:List Tok) (t:Tok) (cs:Array Value) (hcs:cs=t.cells.toArray) (v:Value) (hs:a.eval s=v) (hown:NU 67 B v l w)
  (nb:Nat) (hx:a.eval x=.slice (some ⟨nb,0,none⟩) 1 1) (hnb:nb=w.heap.size) (hlen:l.length≤1000000) (hB:B≤w.heap.size)
  (h:∀ v' w',NU 67 B v' (l++[t]) w'→Below B w w'→wpList Tryz.prog ops Q rest (a.put o.dst v') w') :
  wpList Tryz.prog ops Q (o::rest) a (w.alloc (.cells cs 67)):=by
 subst hnb;obtain⟨i0,hi,hz0,hz1,hz2⟩:=Qz;refine wpList_append_own _ hgd s x 62 ho B 67 i0 _ 4 40 PZ hi hz0 hz1 hz2 rfl (by decide) v _ _ hs (World.ownsRow.alloc hown _) ⟨w.heap.size,0,none⟩ 1 1 t.cells hx rfl ?_ ?_ (by unfold maxLen;omega) (by omega) (by simp;omega) ?_
 ·intro j u hj;have e:(⟨w.heap.size,0,none⟩:Addr).add j=⟨w.heap.size,j,none⟩:=by unfold Addr.add;split<;>simp_all
  rw [e,World.cell?_alloc_new,hcs];simpa using hj
 ·intro u hu;exact CS [t] u (by simpa [fV] using hu)
 ·intro v' w2 hown' hgrow _;refine h v' w2 ?_ ?_
  ·unfold NU;rw [yC,List.length_append];simpa [fV] using hown'
  ·exact ((Below.refl B w).alloc hB _).grown hgrow (by simp;omega) (fun k hk=>(hown.lt k hk).1)
/-! how far a token goes -/
theorem EC {p:Nat→Bool} {b:UInt8} {r:List UInt8} (h:p b.toNat=true):1≤jW p (b::r):=by simp [jW,h]
theorem vL:∀ (L:List (List UInt8)) (l:List UInt8),gB L l=[]∨(gB L l).isPrefixOf l=true
 | [],_=>.inl rfl
 | x::L,l=>by
  unfold gB;split
  ·right;assumption
  ·exact vL L l
theorem Qa {l:List UInt8} {k:Nat} (h:(cO l k).2.2=0):k<(cO l k).2.1∧(cO l k).2.1≤k+l.length:=by
 match l with
 | []=>simp [cO] at h
 | b::r=>
  unfold cO at h ⊢;simp only at h ⊢;by_cases hl:bW b.toNat=true
  ·rw [if_pos hl] at h ⊢;unfold jY at h ⊢;have h1:1≤jW fN (b::r):=EC (by simp [fN,hl]);have h2:=sY fN (b::r);split at h
   ·rename_i h3;rw [if_pos h3];exact⟨by simp only;omega,by simp only;omega⟩
   ·rename_i h3;rw [if_neg h3];split at h
    ·rename_i h4;rw [if_pos h4];exact⟨by simp only;omega,by simp only;omega⟩
    ·simp at h
  ·rw [if_neg hl] at h ⊢;by_cases hd:bX b.toNat=true
   ·rw [if_pos hd] at h ⊢;unfold kM at h ⊢;have h1:1≤jW bX (b::r):=EC hd;have h2:=sY bX (b::r);split at h
    ·rename_i h3;rw [if_pos h3];exact⟨by simp only;omega,by simp only;omega⟩
    ·rename_i h3;exact absurd h h3
   ·rw [if_neg hd] at h ⊢;by_cases h34:b.toNat=34
    ·rw [if_pos h34] at h ⊢;unfold mR at h ⊢;split at h
     ·rename_i h3;rw [if_pos h3];split at h
      ·simp at h
      ·rename_i h4;rw [if_neg h4];have hg:takeOut (b::r)=((takeOut (b::r)).1,(takeOut (b::r)).2.1,0):=by rw [← h3]
       have:=uV hg;exact⟨by simp only;omega,by simp only;omega⟩
     ·rename_i h3;exact absurd h h3
    ·rw [if_neg h34] at h ⊢;unfold nQ at h ⊢;split at h
     ·simp at h
     ·rename_i h3;rw [if_neg h3];have h4:0<(signL (b::r)).length:=List.length_pos_iff.2 h3;have h5:(signL (b::r)).length≤(b::r).length:=by
       rcases vL sgnL (b::r) with h6 | h6
       ·exact absurd h6 h3
       ·exact (List.isPrefixOf_iff_prefix.1 h6).length_le
      exact⟨by simp only;omega,by simp only;omega⟩
theorem Qb {s:ByteArray} {k:Nat} (hk:k≤s.size) (h:(cO (s.data.toList.drop k) k).2.2=0):k<(cO (s.data.toList.drop k) k).2.1∧(cO (s.data.toList.drop k) k).2.1≤s.size:=by
 have:=Qa h;rw [List.length_drop,cF] at this;omega
theorem Ch (g:Nd→Nd):∀ ks:List Nd,(∀ x∈ks,fF (g x)=fF x)→hD (ks.map g)=hD ks
 | [],_=>rfl
 | x::r,h=>by
  rw [List.map_cons,hD,hD,h x (by simp),Ch g r (fun y hy=>h y (by simp [hy]))]
theorem Np (t:Nd):fF (zN t)=fF t:=by
 refine Nd.ind (P:=fun t=>fF (zN t)=fF t) ?_ t;intro k o n s ns ks p ih;rw [fO,fF,fF,Ch zN ks ih]
theorem Hf {t:Nd} (h:checkN t=0) {s:ByteArray} (hs:s.data.toList=lL t) (hl:s.size≤2000) :
  (∃ p,tokOut s=([],p,5))∨∃ f0,∀ f,f0≤f→∃ m,iL f true s=(m,0,0)∧sameN m t=true:=by
 have hh:fF t≤12:=by
  rcases Nat.lt_or_ge 12 (fF t) with h1 | h1
  ·unfold checkN at h;rw [if_pos h1] at h;cases h
  ·exact h1
 have hr:rightN t 3=true:=by
  unfold checkN at h;rw [if_neg (by omega)] at h;split at h
  ·assumption
  ·cases h
 obtain⟨_,h2,h3⟩:=No (sI t) s (by rw [hs,GR]) (GU hr);by_cases hn:600<(aK (sI t)).length
 ·exact .inl (h2 hl hn)
 ·right;obtain⟨out,e1,e2⟩:=h3 hl (by omega);obtain⟨f0,hb⟩:=Hc hr;refine⟨f0,fun f hf=>?_⟩;have hz:out.map zt=(aK (sI t)++[AG]).map zt:=EQ (by rw [e2,List.map_append];rfl);have h4:=IT f out;have h5:=hb f hf;simp only at h5;rw [hz,← IT,h5] at h4;cases hp:qF f true out with
  | bad l=>rw [hp] at h4;cases h4
  | ok m b l=>
   rw [hp] at h4;injection h4 with e3 _ _;rw [zz] at e3;refine⟨m,?_,(Nn m t).2 e3⟩;have hm:fF m=fF t:=by rw [← Np m,e3,Np]
   unfold iL;rw [e1];simp only [hp];rw [if_neg (by simp),if_neg (by omega)]
theorem Ci {f:Nat} {s:ByteArray} (h:(iL f true s).2.2=0):checkN (iL f true s).1=0∧bH (iL f true s).1≤(tokOut s).1.length+1:=by
 have hg:GT (tokOut s).1:=wN s;have hm:=(yF f).stmts [] (tokOut s).1 (tokOut s).1 hg ⟨by simp,by simp,[],rfl,by simp [bU]⟩;unfold iL at h ⊢;split
 ·rename_i he;rw [if_pos he] at h;exact absurd h he
 ·rename_i he;rw [if_neg he] at h;cases hp:qF f true (tokOut s).1 with
  | bad l=>simp [hp] at h
  | ok t b l=>
   simp only [hp] at h ⊢;split
   ·rename_i hh;rw [if_pos hh] at h;cases h
   ·rename_i hh;unfold qF at hp;simp only [if_true] at hp;cases hq:eG f [] (tokOut s).1 with
    | bad l1=>rw [hq] at hp;cases hp
    | ok ns ts l1=>
     rw [hq] at hp hm;simp only [PL.bind,PR.bind] at hp;split at hp
     ·injection hp with e1 _ _;obtain⟨q1,q2,pre,q3,q4⟩:=hm;have hrt:Rt 3 (hJ 29 ts):=.block ts 0 q2 q1;have hr:=LI hrt;rw [e1] at hr;refine⟨?_,?_⟩
      ·unfold checkN;rw [if_neg hh,if_pos hr]
      ·rw [← e1];unfold hJ;rw [fT,q3];simp;omega
     ·cases hp
end Go.Proofs.YtdnnmjhfidimcaaGreatDoor
