/- What the two listed variables, the tables of signs, give the walks; and that the start lays them so. An argument that is a node, opened. -/
import Derived.Test.YtdnnmjhfidimcaaGreatDoorKey
import Derived.Test.YtdnnmjhfidimcaaGreatDoorJoint4
import Derived.Test.YtdnnmjhfidimcaaGreatDoorRows
import Derived.ProofKit
import Derived.LaidMore
import Derived.OpenShut
import Derived.Stop.Joined
import Derived.KernelRfl
import Derived.Test.YtdnnmjhfidimcaaGreatDoorJoint3
import Derived.Deep.Slices
import Derived.Deep.Strs
import Derived.Carry
namespace Go.Proofs.YtdnnmjhfidimcaaGreatDoor
set_option maxRecDepth 100000
open Go.ChangeShapes Go.WideShapes Go.ChangeAt Go.RowKit
open Go.ChangeShapes Go.WideShapes Go.ChangeAt Go.RowKit Go.Deep
def EJ : List (String × DataW Unit) := [("proteus/lex.signs", Rows.laid_proteus_lex_signs), ("proteus/tree.signs", Rows.laid_proteus_tree_signs)]
theorem gSigns0 : Tryz.prog.globalNamed "proteus/lex.signs" = some 0 := by kernel_rfl
theorem tSigns0:(Tryz.prog.globals[0]?).map (·.type)=some 138:=by kernel_rfl
theorem gSigns1 : Tryz.prog.globalNamed "proteus/tree.signs" = some 1 := by kernel_rfl
theorem tSigns1:(Tryz.prog.globals[1]?).map (·.type)=some 139:=by kernel_rfl
theorem Na (os:Os) (args:Array Value):laidMetH Tryz.prog EJ ((World.doorLaid Tryz.prog 14 os).forCall (fun _ _=>0) ⟨#[],args,[]⟩).memory:=
 laidMetH_of_parts3 (fuel:=8) (laidMet_of_run' 8 (by kernel_rfl) (by kernel_rfl)) (by kernel_rfl) (by kernel_rfl)
theorem KX {W : World} {ps : List MemPlace} {r : List (String × DataW Unit)} (h : DataW.LaidVars Tryz.prog W (("proteus/lex.signs", Rows.laid_proteus_lex_signs) :: r) ps) : iF 0 sgnL W ∧ ∃ q, DataW.LaidVars Tryz.prog W r q := by
 obtain⟨g0,t0,cs0,f0,p0,q0,hg0,ht0,hv0,hd0,hr,_⟩:=h;obtain rfl:=Option.some.inj (gSigns0.symm.trans hg0);obtain rfl:=Option.some.inj (tSigns0.symm.trans ht0);obtain⟨xs,m1,rfl,hx1,hlen,hn3,hel⟩:=DataW.trod_array Tryz.underlying138 hd0;have c9:Tryz.prog.cellsOf 9=1:=by kernel_rfl
 have hmap:xs.map (·.1)=sgnL.map fun l=>.lit (.string l):=by
  simp only [Prod.mk.injEq] at hx1;have h1:(DataW.agg (sgnL.map fun l=>.lit (.string l)):DataW Unit)=.agg (xs.map (·.1)):=hx1.1;injection h1 with h2;exact h2.symm
 have h25:sgnL.length=25:=rfl;refine⟨?_,q0,hr⟩;intro i hi;have h1:=hel i (by omega);have hxl:i<xs.length:=by omega
 rw [List.getElem?_eq_getElem hxl,c9,Nat.mul_one] at h1;obtain⟨s,e1,e2,_⟩:=DataW.trod_string Tryz.underlying9 h1;have h2:(xs.map (·.1))[i]? = (sgnL.map fun l=>(DataW.lit (.string l):DataW Unit))[i]?:=by rw [hmap]
 rw [List.getElem?_map,List.getElem?_map,List.getElem?_eq_getElem hxl,List.getElem?_eq_getElem hi,Option.map_some,Option.map_some,e2] at h2;have h3:s.data.toList=sgnL[i]:=by simpa using h2
 rw [World.var?_cell hg0 hv0 i,← h3];have h4:cs0.toList[i]? = some (.string s):=by
  have:=congrArg (fun l=>l[0]?) e1;simpa [List.getElem?_take,List.getElem?_drop] using this
 simpa using h4
theorem KY {W : World} {ps : List MemPlace} {r : List (String × DataW Unit)} (h : DataW.LaidVars Tryz.prog W (("proteus/tree.signs", Rows.laid_proteus_tree_signs) :: r) ps) : iF 1 tsgnL W ∧ ∃ q, DataW.LaidVars Tryz.prog W r q := by
 obtain⟨g0,t0,cs0,f0,p0,q0,hg0,ht0,hv0,hd0,hr,_⟩:=h;obtain rfl:=Option.some.inj (gSigns1.symm.trans hg0);obtain rfl:=Option.some.inj (tSigns1.symm.trans ht0);obtain⟨xs,m1,rfl,hx1,hlen,hn3,hel⟩:=DataW.trod_array Tryz.underlying139 hd0;have c9:Tryz.prog.cellsOf 9=1:=by kernel_rfl
 have hmap:xs.map (·.1)=tsgnL.map fun l=>.lit (.string l):=by
  simp only [Prod.mk.injEq] at hx1;have h1:(DataW.agg (tsgnL.map fun l=>.lit (.string l)):DataW Unit)=.agg (xs.map (·.1)):=hx1.1;injection h1 with h2;exact h2.symm
 have h25:tsgnL.length=12:=rfl;refine⟨?_,q0,hr⟩;intro i hi;have h1:=hel i (by omega);have hxl:i<xs.length:=by omega
 rw [List.getElem?_eq_getElem hxl,c9,Nat.mul_one] at h1;obtain⟨s,e1,e2,_⟩:=DataW.trod_string Tryz.underlying9 h1;have h2:(xs.map (·.1))[i]? = (tsgnL.map fun l=>(DataW.lit (.string l):DataW Unit))[i]?:=by rw [hmap]
 rw [List.getElem?_map,List.getElem?_map,List.getElem?_eq_getElem hxl,List.getElem?_eq_getElem hi,Option.map_some,Option.map_some,e2] at h2;have h3:s.data.toList=tsgnL[i]:=by simpa using h2
 rw [World.var?_cell hg0 hv0 i,← h3];have h4:cs0.toList[i]? = some (.string s):=by
  have:=congrArg (fun l=>l[0]?) e1;simpa [List.getElem?_take,List.getElem?_drop] using this
 simpa using h4
theorem CH (s:ByteArray):∀ (f k:Nat) (acc:List Tok),acc.length≤600→(jD s f k acc).1.length≤601
 | 0,_,_,_=>by simp [jD]
 | f+1,k,acc,h=>by
  unfold jD;split
  ·simp;omega
  ·split
   ·simp
   ·split
    ·simp
    ·exact CH s f _ _ (by simp;omega)
theorem Gw (s:ByteArray):(tokOut s).1.length≤601:=by
 unfold tokOut;split
 ·simp
 ·exact CH s _ _ _ (by simp)
theorem EK {W:World} {g:Nat} {L:List (List UInt8)} (h:iF g L W) (hl:0<L.length):g<W.heap.size:=by
 rcases Nat.lt_or_ge g W.heap.size with h1 | h1
 ·exact h1
 ·have:=h 0 hl;simp [World.cell?,Array.getElem?_eq_none h1] at this
theorem Pt {W:World} (h:laidMetH Tryz.prog EJ W):0<W.heap.size∧1<W.heap.size∧iF 0 sgnL W∧iF 1 tsgnL W:=by
 rw [MakeChecks.laidMetH_plain _ _ _ (by kernel_rfl)] at h;obtain⟨ps,hv,_,_⟩:=h;obtain⟨h0,q,hq⟩:=KX hv;obtain⟨h1,_⟩:=KY hq;exact⟨EK h0 (by decide),EK h1 (by decide),h0,h1⟩
theorem OT:laidOutB Tryz.prog=true:=by kernel_rfl
theorem Dn:Tryz.prog.cellsOf 26=7:=by kernel_rfl
theorem FX {B:Nat} {w:World} {b:Nat} : ∀ (ks:List Nd) (off:Nat),(∀ (i:Nat) (h:i<ks.length),∃ nv kv,bN b (off+i*7) ks[i].kind ks[i].op ks[i].num ks[i].str nv kv ks[i].pl w∧jS B w ks[i] nv kv)→jN B w b ks off
 | [],_,_=>by rw [jN];trivial
 | .mk k op n s ns ks p::r,off,h=>by
  rw [jN];obtain⟨nv,kv,h1,h2⟩:=h 0 (by simp);refine⟨⟨nv,kv,by simpa [Nd.kind,Nd.op,Nd.num,Nd.str,Nd.pl] using h1,h2⟩,FX r (off+7) (fun i hi=>?_)⟩;obtain⟨nv,kv,h1,h2⟩:=h (i+1) (by simpa using hi);refine⟨nv,kv,?_,by simpa using h2⟩;have e:off+(i+1)*7=off+7+i*7:=by omega
  rw [e] at h1;simpa using h1
theorem Km {w:World} {b o:Nat} {v:Value} (h:w.cell? ⟨b,o,none⟩=some v):b<w.heap.size:=by
 rcases Nat.lt_or_ge b w.heap.size with h' | h'
 ·exact h'
 ·simp [World.cell?,Array.getElem?_eq_none h'] at h
theorem IZ {H:Type} {enc:TypeId×Value→H} {W:World} {fuel:Nat} {v:Value} {x:DataW H×List MemPlace}
  (h:DataW.trod enc Tryz.prog W 0 (fun _=>true) true fuel 23 [v]=some x):∃ ns:List ByteArray,cE W.heap.size v ns W:=by
 rcases open_strs Tryz.underlying23 Tryz.underlying9 (by kernel_rfl) h with ⟨hcs,_⟩ | ⟨a,len,cap,m,Sx,hcs,_,hl,_,hmm,_,hx⟩
 ·simp at hcs;exact⟨[],.inl ⟨none,0,hcs,rfl⟩⟩
 ·simp at hcs;simp only [if_true] at hmm;subst hmm;refine⟨(List.range len).map Sx,?_⟩;by_cases h0:len=0
  ·subst h0;exact .inl ⟨some a,m,hcs,rfl⟩
  ·obtain⟨b,off,spot⟩:=a;have hc0:=(hx 0 (by omega)).1;have hspot:spot=none:=by simpa [Addr.add] using World.cell?_spot hc0
   subst hspot;have ap:∀ j,(⟨b,off,none⟩:Addr).add j=⟨b,off+j,none⟩:=fun j=>by unfold Addr.add;split<;>simp_all
   rw [ap] at hc0;refine .inr ⟨b,off,m,by simpa using hcs,Km hc0,?_,by simpa using hl⟩;intro i hi;have hi':i<len:=by simpa using hi
   have:=(hx i (by omega)).1;rw [ap] at this;simpa using this
theorem Ja {H:Type} {enc:TypeId×Value→H} {W:World} : ∀ (fuel:Nat) (cs:List Value) (x:DataW H×List MemPlace),
  DataW.trod enc Tryz.prog W 0 (fun _=>true) true fuel 26 cs=some x→
  ∃ (t:Nd) (nv kv:Value),cs=[.int .i64 t.kind,.int .i64 t.op,.int .i64 t.num,.string t.str,nv,kv,.int .i64 t.pl]∧jS W.heap.size W t nv kv:=by
 intro fuel;induction fuel using Nat.strongRecOn with
 | _ fuel ih=>
 intro cs x h;obtain⟨xs,k,hk,_,hlen,hxl,hf⟩:=DataW.trod_struct Tryz.underlying26 h;rw [Dn] at hlen;match cs,hlen with
 | [v0,v1,v2,v3,v4,v5,v6],_=>
  have ci:Tryz.prog.cellsOf 3=1:=by kernel_rfl
  have cst:Tryz.prog.cellsOf 9=1:=by kernel_rfl
  have csn:Tryz.prog.cellsOf 23=1:=by kernel_rfl
  have csk:Tryz.prog.cellsOf 24=1:=by kernel_rfl
  have g0:=hf 0 _ rfl;have g1:=hf 1 _ rfl;have g2:=hf 2 _ rfl;have g3:=hf 3 _ rfl;have g4:=hf 4 _ rfl;have g5:=hf 5 _ rfl;have g6:=hf 6 _ rfl;simp [ci,cst,csn,csk] at g0 g1 g2 g3 g4 g5 g6;match xs,hxl with
  | [y0,y1,y2,y3,y4,y5,y6],_=>
   simp at g0 g1 g2 g3 g4 g5 g6;obtain⟨i0,r0,_,_⟩:=DataW.trod_int Tryz.underlying3 g0;obtain⟨i1,r1,_,_⟩:=DataW.trod_int Tryz.underlying3 g1;obtain⟨i2,r2,_,_⟩:=DataW.trod_int Tryz.underlying3 g2;obtain⟨i3,r3,_,_⟩:=DataW.trod_string Tryz.underlying9 g3;obtain⟨i6,r6,_,_⟩:=DataW.trod_int Tryz.underlying3 g6;simp at r0 r1 r2 r3 r6;subst r0 r1 r2 r3 r6;obtain⟨ns,hns⟩:=IZ g4;have hks:∃ ks:List Nd,dI W.heap.size W v5 ks:=by
    rcases DataW.trod_slice Tryz.underlying24 g5 with ⟨hcs,_⟩ | ⟨a,len,cap,elems,rest,n,hn,hcs,_,_,hl,_,hel,hall,_,_⟩
    ·simp at hcs;exact⟨[],.inl ⟨none,0,hcs,rfl⟩⟩
    ·simp at hcs;have each:∀ i,i<len→∃ t:Nd,∃ nv kv,(W.cell? (a.add (i*7))=some (.int .i64 t.kind)∧W.cell? (a.add (i*7+1))=some (.int .i64 t.op)∧W.cell? (a.add (i*7+2))=some (.int .i64 t.num)∧W.cell? (a.add (i*7+3))=some (.string t.str)∧
       W.cell? (a.add (i*7+4))=some nv∧W.cell? (a.add (i*7+5))=some kv∧W.cell? (a.add (i*7+6))=some (.int .i64 t.pl))∧jS W.heap.size W t nv kv:=by
      intro i hi;have h1:=hall i hi;rw [List.getElem?_eq_getElem (by omega)] at h1;obtain⟨cs',h2,h3⟩:=Option.bind_eq_some_iff.1 h1;rw [Dn] at h2;obtain⟨_,_,hcell⟩:=World.cells?_some h2;obtain⟨t,nv,kv,rfl,hin⟩:=ih n (by omega) cs' _ h3;refine⟨t,nv,kv,⟨?_,?_,?_,?_,?_,?_,?_⟩,hin⟩
      ·have:=hcell 0 (by omega);rw [add_add] at this;simpa using this
      ·have:=hcell 1 (by omega);rw [add_add] at this;simpa using this
      ·have:=hcell 2 (by omega);rw [add_add] at this;simpa using this
      ·have:=hcell 3 (by omega);rw [add_add] at this;simpa using this
      ·have:=hcell 4 (by omega);rw [add_add] at this;simpa using this
      ·have:=hcell 5 (by omega);rw [add_add] at this;simpa using this
      ·have:=hcell 6 (by omega);rw [add_add] at this;simpa using this
     obtain⟨f,hf'⟩:=@choose_lt Nd ⟨.mk 0 0 0 ⟨#[]⟩ [] [] 0⟩ _ _ each;refine⟨(List.range len).map f,?_⟩;by_cases h0:len=0
     ·subst h0;exact .inl ⟨some a,cap,hcs,rfl⟩
     ·obtain⟨b,off,spot⟩:=a;obtain⟨_,_,⟨hc0,_⟩,_⟩:=hf' 0 (by omega);have hspot:spot=none:=by simpa [Addr.add] using World.cell?_spot hc0
      subst hspot;have ap:∀ j,(⟨b,off,none⟩:Addr).add j=⟨b,off+j,none⟩:=fun j=>by unfold Addr.add;split<;>simp_all
      rw [ap] at hc0;refine .inr ⟨b,off,cap,by simpa using hcs,Km hc0,?_,by simpa using hl⟩;refine FX _ _ (fun i hi=>?_);have hi':i<len:=by simpa using hi
      obtain⟨nv,kv,hc,hin⟩:=hf' i hi';simp only [ap] at hc;refine⟨nv,kv,?_,by simpa using hin⟩;unfold bN;simpa [Nat.add_assoc] using hc
   obtain⟨ks,hks⟩:=hks;exact⟨.mk i0 i1 i2 i3 ns ks i6,v4,v5,rfl,ndIn_mk.2 ⟨hns,hks⟩⟩
theorem ME {H:Type} {enc:TypeId×Value→H} {W:World} {b0:Nat} {r:Reach} {v:Value} {d:DataW H} {p:List MemPlace}
  (hv:Value.okWide Tryz.prog W r b0 26 v) (h:DataW.Trod enc Tryz.prog W 0 (fun _=>true) true 26 v d p) :
  ∃ (t:Nd) (nv kv:Value),v=.agg #[.int .i64 t.kind,.int .i64 t.op,.int .i64 t.num,.string t.str,nv,kv,.int .i64 t.pl]∧Hid (jS W.heap.size W t nv kv):=by
 obtain⟨cs,rfl,_⟩:=okWide_struct Tryz.underlying26 hv;obtain⟨fuel,hf⟩:=h;obtain⟨t,nv,kv,e,hin⟩:=Ja fuel _ _ hf;refine⟨t,nv,kv,?_,hin⟩;have:cs.toList=[.int .i64 t.kind,.int .i64 t.op,.int .i64 t.num,.string t.str,nv,kv,.int .i64 t.pl]:=by simpa [Value.cells] using e
 have h2:cs=(cs.toList).toArray:=by simp
 rw [h2,this]
end Go.Proofs.YtdnnmjhfidimcaaGreatDoor
