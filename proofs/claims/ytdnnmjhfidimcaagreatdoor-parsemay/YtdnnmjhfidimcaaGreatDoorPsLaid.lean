/- What the two listed variables, the tables of signs, give the walks; and that the start lays them so. -/
import Derived.Test.YtdnnmjhfidimcaaGreatDoorJoint4
import Derived.Test.YtdnnmjhfidimcaaGreatDoorJoint12
import Derived.Test.YtdnnmjhfidimcaaGreatDoorRows
import Derived.ProofKit
import Derived.LaidMore
import Derived.OpenShut
import Derived.Stop.Joined
import Derived.KernelRfl
namespace Go.Proofs.YtdnnmjhfidimcaaGreatDoor
set_option maxRecDepth 100000
open Go.ChangeShapes Go.WideShapes Go.ChangeAt Go.RowKit
def DE : List (String × DataW Unit) := [("proteus/lex.signs", Rows.laid_proteus_lex_signs), ("proteus/tree.signs", Rows.laid_proteus_tree_signs)]
theorem gSigns0 : Tryz.prog.globalNamed "proteus/lex.signs" = some 0 := by kernel_rfl
theorem tSigns0:(Tryz.prog.globals[0]?).map (·.type)=some 138:=by kernel_rfl
theorem gSigns1 : Tryz.prog.globalNamed "proteus/tree.signs" = some 1 := by kernel_rfl
theorem tSigns1:(Tryz.prog.globals[1]?).map (·.type)=some 139:=by kernel_rfl
theorem LG (os:Os) (args:Array Value):laidMetH Tryz.prog DE ((World.doorLaid Tryz.prog 14 os).forCall (fun _ _=>0) ⟨#[],args,[]⟩).memory:=
 laidMetH_of_parts3 (fuel:=8) (laidMet_of_run' 8 (by kernel_rfl) (by kernel_rfl)) (by kernel_rfl) (by kernel_rfl)
theorem JA {W : World} {ps : List MemPlace} {r : List (String × DataW Unit)} (h : DataW.LaidVars Tryz.prog W (("proteus/lex.signs", Rows.laid_proteus_lex_signs) :: r) ps) : iZ 0 sgnL W ∧ ∃ q, DataW.LaidVars Tryz.prog W r q := by
 obtain⟨g0,t0,cs0,f0,p0,q0,hg0,ht0,hv0,hd0,hr,_⟩:=h;obtain rfl:=Option.some.inj (gSigns0.symm.trans hg0);obtain rfl:=Option.some.inj (tSigns0.symm.trans ht0);obtain⟨xs,m1,rfl,hx1,hlen,hn3,hel⟩:=DataW.trod_array Tryz.underlying138 hd0;have c9:Tryz.prog.cellsOf 9=1:=by kernel_rfl
 have hmap:xs.map (·.1)=sgnL.map fun l=>.lit (.string l):=by
  simp only [Prod.mk.injEq] at hx1;have h1:(DataW.agg (sgnL.map fun l=>.lit (.string l)):DataW Unit)=.agg (xs.map (·.1)):=hx1.1;injection h1 with h2;exact h2.symm
 have h25:sgnL.length=25:=rfl;refine⟨?_,q0,hr⟩;intro i hi;have h1:=hel i (by omega);have hxl:i<xs.length:=by omega
 rw [List.getElem?_eq_getElem hxl,c9,Nat.mul_one] at h1;obtain⟨s,e1,e2,_⟩:=DataW.trod_string Tryz.underlying9 h1;have h2:(xs.map (·.1))[i]? = (sgnL.map fun l=>(DataW.lit (.string l):DataW Unit))[i]?:=by rw [hmap]
 rw [List.getElem?_map,List.getElem?_map,List.getElem?_eq_getElem hxl,List.getElem?_eq_getElem hi,Option.map_some,Option.map_some,e2] at h2;have h3:s.data.toList=sgnL[i]:=by simpa using h2
 rw [World.var?_cell hg0 hv0 i,← h3];have h4:cs0.toList[i]? = some (.string s):=by
  have:=congrArg (fun l=>l[0]?) e1;simpa [List.getElem?_take,List.getElem?_drop] using this
 simpa using h4
theorem JB {W : World} {ps : List MemPlace} {r : List (String × DataW Unit)} (h : DataW.LaidVars Tryz.prog W (("proteus/tree.signs", Rows.laid_proteus_tree_signs) :: r) ps) : iZ 1 tsgnL W ∧ ∃ q, DataW.LaidVars Tryz.prog W r q := by
 obtain⟨g0,t0,cs0,f0,p0,q0,hg0,ht0,hv0,hd0,hr,_⟩:=h;obtain rfl:=Option.some.inj (gSigns1.symm.trans hg0);obtain rfl:=Option.some.inj (tSigns1.symm.trans ht0);obtain⟨xs,m1,rfl,hx1,hlen,hn3,hel⟩:=DataW.trod_array Tryz.underlying139 hd0;have c9:Tryz.prog.cellsOf 9=1:=by kernel_rfl
 have hmap:xs.map (·.1)=tsgnL.map fun l=>.lit (.string l):=by
  simp only [Prod.mk.injEq] at hx1;have h1:(DataW.agg (tsgnL.map fun l=>.lit (.string l)):DataW Unit)=.agg (xs.map (·.1)):=hx1.1;injection h1 with h2;exact h2.symm
 have h25:tsgnL.length=12:=rfl;refine⟨?_,q0,hr⟩;intro i hi;have h1:=hel i (by omega);have hxl:i<xs.length:=by omega
 rw [List.getElem?_eq_getElem hxl,c9,Nat.mul_one] at h1;obtain⟨s,e1,e2,_⟩:=DataW.trod_string Tryz.underlying9 h1;have h2:(xs.map (·.1))[i]? = (tsgnL.map fun l=>(DataW.lit (.string l):DataW Unit))[i]?:=by rw [hmap]
 rw [List.getElem?_map,List.getElem?_map,List.getElem?_eq_getElem hxl,List.getElem?_eq_getElem hi,Option.map_some,Option.map_some,e2] at h2;have h3:s.data.toList=tsgnL[i]:=by simpa using h2
 rw [World.var?_cell hg0 hv0 i,← h3];have h4:cs0.toList[i]? = some (.string s):=by
  have:=congrArg (fun l=>l[0]?) e1;simpa [List.getElem?_take,List.getElem?_drop] using this
 simpa using h4
theorem By (s:ByteArray):∀ (f k:Nat) (acc:List Tok),acc.length≤600→(jI s f k acc).1.length≤601
 | 0,_,_,_=>by simp [jI]
 | f+1,k,acc,h=>by
  unfold jI;split
  ·simp;omega
  ·split
   ·simp
   ·split
    ·simp
    ·exact By s f _ _ (by simp;omega)
theorem zC (s:ByteArray):(tokOut s).1.length≤601:=by
 unfold tokOut;split
 ·simp
 ·exact By s _ _ _ (by simp)
theorem DF {W:World} {g:Nat} {L:List (List UInt8)} (h:iZ g L W) (hl:0<L.length):g<W.heap.size:=by
 rcases Nat.lt_or_ge g W.heap.size with h1 | h1
 ·exact h1
 ·have:=h 0 hl;simp [World.cell?,Array.getElem?_eq_none h1] at this
theorem NV {W:World} (h:laidMetH Tryz.prog DE W):0<W.heap.size∧1<W.heap.size∧iZ 0 sgnL W∧iZ 1 tsgnL W:=by
 rw [MakeChecks.laidMetH_plain _ _ _ (by kernel_rfl)] at h;obtain⟨ps,hv,_,_⟩:=h;obtain⟨h0,q,hq⟩:=JA hv;obtain⟨h1,_⟩:=JB hq;exact⟨DF h0 (by decide),DF h1 (by decide),h0,h1⟩
end Go.Proofs.YtdnnmjhfidimcaaGreatDoor
