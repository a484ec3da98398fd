/-
  NARROWER THAN 'FOR EVERY INPUT', by the rows' own cells (each row's printed sentence says how): CompileUnits: loops, laid · CompileMay: loops, laid · CompileTicks: loops, laid · CompileSites: loops, laid · CompileSums: laid.
  DERIVED. THE GIVEN ROWS OF THIS SEAT. 5 by the template 'for every input the law returns true; each argument reads behind the call as it read before'; 0 by the template 'total and deterministic' (their statements: YtgdbaceehpcgbaaDoorTotals.lean).
  GIVEN WITH THE SEED: the statements are not yours to turn. If you find one false, say at which input.
  Laid BY PROGRAM, IN A SANDBOX (cutbox-rows.mjs): the forced cells as the released guide's own fill.sh prints them over the translation 91a0f828de31eb61… (all of the seat's roots in one cut). By AI agents, Wed Nov 11 2026. No macro, syntax, notation, axiom, sorry.
-/
import Derived.Test.YtgdbaceehpcgbaaDoorChecked
import GoSem.Claim
import GoSem.ClaimJoined
import GoSem.ClaimMapViews
import Derived.JoinedTies
import Derived.KernelRfl
namespace Go.Proofs.YtgdbaceehpcgbaaDoor
/- THE CELL 'sum', in the pinned program and in every row, IS THE sha256 OF THE DUMP (.gsa) THAT YtgdbaceehpcgbaaDoorProg.lean LOADS. Nothing in Lean hashes anything: it is a label: what it is worth is what the hold of that sum in a sandbox is worth. -/
noncomputable def Tryd.pinned : Pinned := { name := "ytgdbaceehpcgbaadoor", sum := "91a0f828de31eb6124f1fb4f066605255bc9c4b739fa92bdfbdb2eff25d8eed9", checked := Tryd.checked }
namespace Rows
def none {H : Type} : Left H := { results := [], args := [] }

/- WHAT THE LISTED PACKAGE-LEVEL VARIABLES READ AS WHEN THE CALL BEGINS. Each datum BY PROGRAM (the guide's laid-datum.mjs) off the statement by which the dump's own 'gosem.cut.vars' lays the variable. In a bare row this is a premise. The card (YtgdbaceehpcgbaaDoorCards.lean) ties it to the program's text. -/
def laid_proteus_tree_signs {H : Type} : DataW H := .agg [.lit (.string []), .lit (.string [43]), .lit (.string [45]), .lit (.string [42]), .lit (.string [47]), .lit (.string [37]), .lit (.string [60]), .lit (.string [60, 61]), .lit (.string [62]), .lit (.string [62, 61]), .lit (.string [61, 61]), .lit (.string [33, 61])]

/-- 'proteuslaw15.CompileUnits': WHATEVER THE INPUT: true; the input reads as it did. -/
def compileUnitsSpec : ChangeSpec := { name := "compileUnits", fn := fun _ => fun
  | [d] => { results := [.lit (.bool true)], args := [d] }
  | _ => none }
def compileUnitsRow : OpenClaim := { program := "ytgdbaceehpcgbaadoor", sum := "91a0f828de31eb6124f1fb4f066605255bc9c4b739fa92bdfbdb2eff25d8eed9", func := "proteus/proteuslaw15.CompileUnits", spec := "compileUnits", unfollowed := true, recurses := true, named := ["proteus/tree.signs"], loops := true, apart := false, laid := [("proteus/tree.signs", laid_proteus_tree_signs)] }
def CompileUnitsSaid : Prop := compileUnitsRow.holds Tryd.pinned (OpenSpec.ofChange compileUnitsSpec)

/-- ITS FALSE NEIGHBOUR: 'it returns false'. Refute it at one input. -/
def compileUnitsWrong : ChangeSpec := { name := "compileUnits", fn := fun _ => fun
  | [d] => { results := [.lit (.bool false)], args := [d] }
  | _ => none }
def CompileUnitsWrongFalsely : Prop := compileUnitsRow.holds Tryd.pinned (OpenSpec.ofChange compileUnitsWrong)

/-- 'proteuslaw15.CompileMay': WHATEVER THE INPUT: true; the input reads as it did. -/
def compileMaySpec : ChangeSpec := { name := "compileMay", fn := fun _ => fun
  | [d] => { results := [.lit (.bool true)], args := [d] }
  | _ => none }
def compileMayRow : OpenClaim := { program := "ytgdbaceehpcgbaadoor", sum := "91a0f828de31eb6124f1fb4f066605255bc9c4b739fa92bdfbdb2eff25d8eed9", func := "proteus/proteuslaw15.CompileMay", spec := "compileMay", unfollowed := true, recurses := true, named := ["proteus/tree.signs"], loops := true, apart := false, laid := [("proteus/tree.signs", laid_proteus_tree_signs)] }
def CompileMaySaid : Prop := compileMayRow.holds Tryd.pinned (OpenSpec.ofChange compileMaySpec)

/-- ITS FALSE NEIGHBOUR: 'it returns false'. Refute it at one input. -/
def compileMayWrong : ChangeSpec := { name := "compileMay", fn := fun _ => fun
  | [d] => { results := [.lit (.bool false)], args := [d] }
  | _ => none }
def CompileMayWrongFalsely : Prop := compileMayRow.holds Tryd.pinned (OpenSpec.ofChange compileMayWrong)

/-- 'proteuslaw15.CompileTicks': WHATEVER THE INPUT: true; the input reads as it did. -/
def compileTicksSpec : ChangeSpec := { name := "compileTicks", fn := fun _ => fun
  | [d] => { results := [.lit (.bool true)], args := [d] }
  | _ => none }
def compileTicksRow : OpenClaim := { program := "ytgdbaceehpcgbaadoor", sum := "91a0f828de31eb6124f1fb4f066605255bc9c4b739fa92bdfbdb2eff25d8eed9", func := "proteus/proteuslaw15.CompileTicks", spec := "compileTicks", unfollowed := true, recurses := true, named := ["proteus/tree.signs"], loops := true, apart := false, laid := [("proteus/tree.signs", laid_proteus_tree_signs)] }
def CompileTicksSaid : Prop := compileTicksRow.holds Tryd.pinned (OpenSpec.ofChange compileTicksSpec)

/-- ITS FALSE NEIGHBOUR: 'it returns false'. Refute it at one input. -/
def compileTicksWrong : ChangeSpec := { name := "compileTicks", fn := fun _ => fun
  | [d] => { results := [.lit (.bool false)], args := [d] }
  | _ => none }
def CompileTicksWrongFalsely : Prop := compileTicksRow.holds Tryd.pinned (OpenSpec.ofChange compileTicksWrong)

/-- 'proteuslaw15.CompileSites': WHATEVER THE INPUT: true; the input reads as it did. -/
def compileSitesSpec : ChangeSpec := { name := "compileSites", fn := fun _ => fun
  | [d] => { results := [.lit (.bool true)], args := [d] }
  | _ => none }
def compileSitesRow : OpenClaim := { program := "ytgdbaceehpcgbaadoor", sum := "91a0f828de31eb6124f1fb4f066605255bc9c4b739fa92bdfbdb2eff25d8eed9", func := "proteus/proteuslaw15.CompileSites", spec := "compileSites", unfollowed := true, recurses := true, named := ["proteus/tree.signs"], loops := true, apart := false, laid := [("proteus/tree.signs", laid_proteus_tree_signs)] }
def CompileSitesSaid : Prop := compileSitesRow.holds Tryd.pinned (OpenSpec.ofChange compileSitesSpec)

/-- ITS FALSE NEIGHBOUR: 'it returns false'. Refute it at one input. -/
def compileSitesWrong : ChangeSpec := { name := "compileSites", fn := fun _ => fun
  | [d] => { results := [.lit (.bool false)], args := [d] }
  | _ => none }
def CompileSitesWrongFalsely : Prop := compileSitesRow.holds Tryd.pinned (OpenSpec.ofChange compileSitesWrong)

/-- 'proteuslaw15.CompileSums': WHATEVER THE INPUT: true; the input reads as it did. -/
def compileSumsSpec : ChangeSpec := { name := "compileSums", fn := fun _ => fun
  | [d] => { results := [.lit (.bool true)], args := [d] }
  | _ => none }
def compileSumsRow : OpenClaim := { program := "ytgdbaceehpcgbaadoor", sum := "91a0f828de31eb6124f1fb4f066605255bc9c4b739fa92bdfbdb2eff25d8eed9", func := "proteus/proteuslaw15.CompileSums", spec := "compileSums", unfollowed := true, recurses := true, named := ["proteus/tree.signs"], apart := false, laid := [("proteus/tree.signs", laid_proteus_tree_signs)] }
def CompileSumsSaid : Prop := compileSumsRow.holds Tryd.pinned (OpenSpec.ofChange compileSumsSpec)

/-- ITS FALSE NEIGHBOUR: 'it returns false'. Refute it at one input. -/
def compileSumsWrong : ChangeSpec := { name := "compileSums", fn := fun _ => fun
  | [d] => { results := [.lit (.bool false)], args := [d] }
  | _ => none }
def CompileSumsWrongFalsely : Prop := compileSumsRow.holds Tryd.pinned (OpenSpec.ofChange compileSumsWrong)

/- THE SECOND FORM. 'bulk': how many values and letters a reading holds, each counted each time it is reached (what is shared counts as often as it is met; a slice's spare places count too). A statement '..UptoSaid' is the law's where the arguments, and the package variables that the reading takes, are together of bulk at most 1048576: NARROWER than '..Said'. Prove '..Said' where nothing that the law and all that it calls make is longer than what came in: it says more and counts as full. Else prove '..UptoSaid'. A law counts once. -/
mutual
def uptoBulk {H : Type} : DataW H → Nat
  | .lit (.string bytes) => bytes.length + 1
  | .lit _ => 1
  | .nil => 1
  | .ptr d => uptoBulk d + 1
  | .slice elems spare => uptoBulkAll elems + uptoBulkAll spare + 1
  | .agg parts => uptoBulkAll parts + 1
  | .iface _ d => uptoBulk d + 1
  | .map entries => uptoBulkEntries entries + 1
  | .held _ => 1
def uptoBulkAll {H : Type} : List (DataW H) → Nat
  | [] => 0
  | d :: r => uptoBulk d + uptoBulkAll r
def uptoBulkEntries {H : Type} : List (Lit × DataW H) → Nat
  | [] => 0
  | x :: r => uptoBulkEntry x + uptoBulkEntries r
def uptoBulkEntry {H : Type} : Lit × DataW H → Nat
  | (.string bytes, d) => bytes.length + uptoBulk d + 1
  | (_, d) => uptoBulk d + 1
 end
def uptoSmall : (H : Type) → List (DataW H) → Bool := fun _ ds => decide (uptoBulkAll ds ≤ 1048576)
def OpenSpec.upto (s : _root_.Go.ChangeSpec) : _root_.Go.OpenSpec := { _root_.Go.OpenSpec.ofChange s with cond := some uptoSmall }

/-- 'proteuslaw15.CompileUnits', WHERE WHAT IT READS IS OF BULK AT MOST 1048576: true; the input reads as it did. -/
def compileUnitsUptoRow : OpenClaim := { program := "ytgdbaceehpcgbaadoor", sum := "91a0f828de31eb6124f1fb4f066605255bc9c4b739fa92bdfbdb2eff25d8eed9", func := "proteus/proteuslaw15.CompileUnits", spec := "compileUnits", unfollowed := true, recurses := true, named := ["proteus/tree.signs"], loops := true, apart := false, laid := [("proteus/tree.signs", laid_proteus_tree_signs)], narrowed := true }
def CompileUnitsUptoSaid : Prop := compileUnitsUptoRow.holds Tryd.pinned (OpenSpec.upto compileUnitsSpec)

/-- 'proteuslaw15.CompileMay', WHERE WHAT IT READS IS OF BULK AT MOST 1048576: true; the input reads as it did. -/
def compileMayUptoRow : OpenClaim := { program := "ytgdbaceehpcgbaadoor", sum := "91a0f828de31eb6124f1fb4f066605255bc9c4b739fa92bdfbdb2eff25d8eed9", func := "proteus/proteuslaw15.CompileMay", spec := "compileMay", unfollowed := true, recurses := true, named := ["proteus/tree.signs"], loops := true, apart := false, laid := [("proteus/tree.signs", laid_proteus_tree_signs)], narrowed := true }
def CompileMayUptoSaid : Prop := compileMayUptoRow.holds Tryd.pinned (OpenSpec.upto compileMaySpec)

/-- 'proteuslaw15.CompileTicks', WHERE WHAT IT READS IS OF BULK AT MOST 1048576: true; the input reads as it did. -/
def compileTicksUptoRow : OpenClaim := { program := "ytgdbaceehpcgbaadoor", sum := "91a0f828de31eb6124f1fb4f066605255bc9c4b739fa92bdfbdb2eff25d8eed9", func := "proteus/proteuslaw15.CompileTicks", spec := "compileTicks", unfollowed := true, recurses := true, named := ["proteus/tree.signs"], loops := true, apart := false, laid := [("proteus/tree.signs", laid_proteus_tree_signs)], narrowed := true }
def CompileTicksUptoSaid : Prop := compileTicksUptoRow.holds Tryd.pinned (OpenSpec.upto compileTicksSpec)

/-- 'proteuslaw15.CompileSites', WHERE WHAT IT READS IS OF BULK AT MOST 1048576: true; the input reads as it did. -/
def compileSitesUptoRow : OpenClaim := { program := "ytgdbaceehpcgbaadoor", sum := "91a0f828de31eb6124f1fb4f066605255bc9c4b739fa92bdfbdb2eff25d8eed9", func := "proteus/proteuslaw15.CompileSites", spec := "compileSites", unfollowed := true, recurses := true, named := ["proteus/tree.signs"], loops := true, apart := false, laid := [("proteus/tree.signs", laid_proteus_tree_signs)], narrowed := true }
def CompileSitesUptoSaid : Prop := compileSitesUptoRow.holds Tryd.pinned (OpenSpec.upto compileSitesSpec)

/-- 'proteuslaw15.CompileSums', WHERE WHAT IT READS IS OF BULK AT MOST 1048576: true; the input reads as it did. -/
def compileSumsUptoRow : OpenClaim := { program := "ytgdbaceehpcgbaadoor", sum := "91a0f828de31eb6124f1fb4f066605255bc9c4b739fa92bdfbdb2eff25d8eed9", func := "proteus/proteuslaw15.CompileSums", spec := "compileSums", unfollowed := true, recurses := true, named := ["proteus/tree.signs"], apart := false, laid := [("proteus/tree.signs", laid_proteus_tree_signs)], narrowed := true }
def CompileSumsUptoSaid : Prop := compileSumsUptoRow.holds Tryd.pinned (OpenSpec.upto compileSumsSpec)

end Rows
end Go.Proofs.YtgdbaceehpcgbaaDoor
