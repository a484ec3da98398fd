/-
  NARROWER THAN 'FOR EVERY INPUT', by the rows' own cells (each row's printed sentence says how): ScopeResolves: loops, laid · ScopeChecks: loops, laid · ScopeMay: loops, laid · ScopeNames: loops, laid.
  DERIVED. THE GIVEN ROWS OF THIS SEAT. 4 by the template 'for every input the law returns true; each argument reads behind the call as it read before'; 0 by the template 'total and deterministic' (their statements: YtmihckhflbepjaaDoorTotals.lean).
  GIVEN WITH THE SEED: the statements are not yours to turn. If you find one false, say at which input.
  Laid BY PROGRAM, IN A SANDBOX (cutbox-rows.mjs): the forced cells as the released guide's own fill.sh prints them over the translation db1943e4dc44d0ab… (all of the seat's roots in one cut). By AI agents, Wed Nov 11 2026. No macro, syntax, notation, axiom, sorry.
-/
import Derived.Test.YtmihckhflbepjaaDoorChecked
import GoSem.Claim
import GoSem.ClaimJoined
import GoSem.ClaimMapViews
import Derived.JoinedTies
import Derived.KernelRfl
namespace Go.Proofs.YtmihckhflbepjaaDoor
/- THE CELL 'sum', in the pinned program and in every row, IS THE sha256 OF THE DUMP (.gsa) THAT YtmihckhflbepjaaDoorProg.lean LOADS. Nothing in Lean hashes anything: it is a label: what it is worth is what the hold of that sum in a sandbox is worth. -/
noncomputable def Tryd.pinned : Pinned := { name := "ytmihckhflbepjaadoor", sum := "db1943e4dc44d0ab7b5a8a20ca2689cacd703465224e3e571e9f9a00a55b327d", checked := Tryd.checked }
namespace Rows
def none {H : Type} : Left H := { results := [], args := [] }

/- WHAT THE LISTED PACKAGE-LEVEL VARIABLES READ AS WHEN THE CALL BEGINS. Each datum BY PROGRAM (the guide's laid-datum.mjs) off the statement by which the dump's own 'gosem.cut.vars' lays the variable. In a bare row this is a premise. The card (YtmihckhflbepjaaDoorCards.lean) ties it to the program's text. -/
def laid_proteus_tree_signs {H : Type} : DataW H := .agg [.lit (.string []), .lit (.string [43]), .lit (.string [45]), .lit (.string [42]), .lit (.string [47]), .lit (.string [37]), .lit (.string [60]), .lit (.string [60, 61]), .lit (.string [62]), .lit (.string [62, 61]), .lit (.string [61, 61]), .lit (.string [33, 61])]

/-- 'proteuslaw08.ScopeResolves': WHATEVER THE INPUT: true; the input reads as it did. -/
def scopeResolvesSpec : ChangeSpec := { name := "scopeResolves", fn := fun _ => fun
  | [d] => { results := [.lit (.bool true)], args := [d] }
  | _ => none }
def scopeResolvesRow : OpenClaim := { program := "ytmihckhflbepjaadoor", sum := "db1943e4dc44d0ab7b5a8a20ca2689cacd703465224e3e571e9f9a00a55b327d", func := "proteus/proteuslaw08.ScopeResolves", spec := "scopeResolves", unfollowed := true, recurses := true, named := ["proteus/tree.signs"], loops := true, apart := false, laid := [("proteus/tree.signs", laid_proteus_tree_signs)] }
def ScopeResolvesSaid : Prop := scopeResolvesRow.holds Tryd.pinned (OpenSpec.ofChange scopeResolvesSpec)

/-- ITS FALSE NEIGHBOUR: 'it returns false'. Refute it at one input. -/
def scopeResolvesWrong : ChangeSpec := { name := "scopeResolves", fn := fun _ => fun
  | [d] => { results := [.lit (.bool false)], args := [d] }
  | _ => none }
def ScopeResolvesWrongFalsely : Prop := scopeResolvesRow.holds Tryd.pinned (OpenSpec.ofChange scopeResolvesWrong)

/-- 'proteuslaw08.ScopeChecks': WHATEVER THE INPUT: true; the input reads as it did. -/
def scopeChecksSpec : ChangeSpec := { name := "scopeChecks", fn := fun _ => fun
  | [d1, d2] => { results := [.lit (.bool true)], args := [d1, d2] }
  | _ => none }
def scopeChecksRow : OpenClaim := { program := "ytmihckhflbepjaadoor", sum := "db1943e4dc44d0ab7b5a8a20ca2689cacd703465224e3e571e9f9a00a55b327d", func := "proteus/proteuslaw08.ScopeChecks", spec := "scopeChecks", unfollowed := true, recurses := true, named := ["proteus/tree.signs"], loops := true, apart := false, laid := [("proteus/tree.signs", laid_proteus_tree_signs)] }
def ScopeChecksSaid : Prop := scopeChecksRow.holds Tryd.pinned (OpenSpec.ofChange scopeChecksSpec)

/-- ITS FALSE NEIGHBOUR: 'it returns false'. Refute it at one input. -/
def scopeChecksWrong : ChangeSpec := { name := "scopeChecks", fn := fun _ => fun
  | [d1, d2] => { results := [.lit (.bool false)], args := [d1, d2] }
  | _ => none }
def ScopeChecksWrongFalsely : Prop := scopeChecksRow.holds Tryd.pinned (OpenSpec.ofChange scopeChecksWrong)

/-- 'proteuslaw08.ScopeMay': WHATEVER THE INPUT: true; the input reads as it did. -/
def scopeMaySpec : ChangeSpec := { name := "scopeMay", fn := fun _ => fun
  | [d] => { results := [.lit (.bool true)], args := [d] }
  | _ => none }
def scopeMayRow : OpenClaim := { program := "ytmihckhflbepjaadoor", sum := "db1943e4dc44d0ab7b5a8a20ca2689cacd703465224e3e571e9f9a00a55b327d", func := "proteus/proteuslaw08.ScopeMay", spec := "scopeMay", unfollowed := true, recurses := true, named := ["proteus/tree.signs"], loops := true, apart := false, laid := [("proteus/tree.signs", laid_proteus_tree_signs)] }
def ScopeMaySaid : Prop := scopeMayRow.holds Tryd.pinned (OpenSpec.ofChange scopeMaySpec)

/-- ITS FALSE NEIGHBOUR: 'it returns false'. Refute it at one input. -/
def scopeMayWrong : ChangeSpec := { name := "scopeMay", fn := fun _ => fun
  | [d] => { results := [.lit (.bool false)], args := [d] }
  | _ => none }
def ScopeMayWrongFalsely : Prop := scopeMayRow.holds Tryd.pinned (OpenSpec.ofChange scopeMayWrong)

/-- 'proteuslaw08.ScopeNames': WHATEVER THE INPUT: true; the input reads as it did. -/
def scopeNamesSpec : ChangeSpec := { name := "scopeNames", fn := fun _ => fun
  | [d] => { results := [.lit (.bool true)], args := [d] }
  | _ => none }
def scopeNamesRow : OpenClaim := { program := "ytmihckhflbepjaadoor", sum := "db1943e4dc44d0ab7b5a8a20ca2689cacd703465224e3e571e9f9a00a55b327d", func := "proteus/proteuslaw08.ScopeNames", spec := "scopeNames", unfollowed := true, recurses := true, named := ["proteus/tree.signs"], loops := true, apart := false, laid := [("proteus/tree.signs", laid_proteus_tree_signs)] }
def ScopeNamesSaid : Prop := scopeNamesRow.holds Tryd.pinned (OpenSpec.ofChange scopeNamesSpec)

/-- ITS FALSE NEIGHBOUR: 'it returns false'. Refute it at one input. -/
def scopeNamesWrong : ChangeSpec := { name := "scopeNames", fn := fun _ => fun
  | [d] => { results := [.lit (.bool false)], args := [d] }
  | _ => none }
def ScopeNamesWrongFalsely : Prop := scopeNamesRow.holds Tryd.pinned (OpenSpec.ofChange scopeNamesWrong)

/- THE SECOND FORM. 'bulk': how many values and letters a reading holds, each counted each time it is reached (what is shared counts as often as it is met; a slice's spare places count too). A statement '..UptoSaid' is the law's where the arguments, and the package variables that the reading takes, are together of bulk at most 1048576: NARROWER than '..Said'. Prove '..Said' where nothing that the law and all that it calls make is longer than what came in: it says more and counts as full. Else prove '..UptoSaid'. A law counts once. -/
mutual
def uptoBulk {H : Type} : DataW H → Nat
  | .lit (.string bytes) => bytes.length + 1
  | .lit _ => 1
  | .nil => 1
  | .ptr d => uptoBulk d + 1
  | .slice elems spare => uptoBulkAll elems + uptoBulkAll spare + 1
  | .agg parts => uptoBulkAll parts + 1
  | .iface _ d => uptoBulk d + 1
  | .map entries => uptoBulkEntries entries + 1
  | .held _ => 1
def uptoBulkAll {H : Type} : List (DataW H) → Nat
  | [] => 0
  | d :: r => uptoBulk d + uptoBulkAll r
def uptoBulkEntries {H : Type} : List (Lit × DataW H) → Nat
  | [] => 0
  | x :: r => uptoBulkEntry x + uptoBulkEntries r
def uptoBulkEntry {H : Type} : Lit × DataW H → Nat
  | (.string bytes, d) => bytes.length + uptoBulk d + 1
  | (_, d) => uptoBulk d + 1
 end
def uptoSmall : (H : Type) → List (DataW H) → Bool := fun _ ds => decide (uptoBulkAll ds ≤ 1048576)
def OpenSpec.upto (s : _root_.Go.ChangeSpec) : _root_.Go.OpenSpec := { _root_.Go.OpenSpec.ofChange s with cond := some uptoSmall }

/-- 'proteuslaw08.ScopeResolves', WHERE WHAT IT READS IS OF BULK AT MOST 1048576: true; the input reads as it did. -/
def scopeResolvesUptoRow : OpenClaim := { program := "ytmihckhflbepjaadoor", sum := "db1943e4dc44d0ab7b5a8a20ca2689cacd703465224e3e571e9f9a00a55b327d", func := "proteus/proteuslaw08.ScopeResolves", spec := "scopeResolves", unfollowed := true, recurses := true, named := ["proteus/tree.signs"], loops := true, apart := false, laid := [("proteus/tree.signs", laid_proteus_tree_signs)], narrowed := true }
def ScopeResolvesUptoSaid : Prop := scopeResolvesUptoRow.holds Tryd.pinned (OpenSpec.upto scopeResolvesSpec)

/-- 'proteuslaw08.ScopeChecks', WHERE WHAT IT READS IS OF BULK AT MOST 1048576: true; the input reads as it did. -/
def scopeChecksUptoRow : OpenClaim := { program := "ytmihckhflbepjaadoor", sum := "db1943e4dc44d0ab7b5a8a20ca2689cacd703465224e3e571e9f9a00a55b327d", func := "proteus/proteuslaw08.ScopeChecks", spec := "scopeChecks", unfollowed := true, recurses := true, named := ["proteus/tree.signs"], loops := true, apart := false, laid := [("proteus/tree.signs", laid_proteus_tree_signs)], narrowed := true }
def ScopeChecksUptoSaid : Prop := scopeChecksUptoRow.holds Tryd.pinned (OpenSpec.upto scopeChecksSpec)

/-- 'proteuslaw08.ScopeMay', WHERE WHAT IT READS IS OF BULK AT MOST 1048576: true; the input reads as it did. -/
def scopeMayUptoRow : OpenClaim := { program := "ytmihckhflbepjaadoor", sum := "db1943e4dc44d0ab7b5a8a20ca2689cacd703465224e3e571e9f9a00a55b327d", func := "proteus/proteuslaw08.ScopeMay", spec := "scopeMay", unfollowed := true, recurses := true, named := ["proteus/tree.signs"], loops := true, apart := false, laid := [("proteus/tree.signs", laid_proteus_tree_signs)], narrowed := true }
def ScopeMayUptoSaid : Prop := scopeMayUptoRow.holds Tryd.pinned (OpenSpec.upto scopeMaySpec)

/-- 'proteuslaw08.ScopeNames', WHERE WHAT IT READS IS OF BULK AT MOST 1048576: true; the input reads as it did. -/
def scopeNamesUptoRow : OpenClaim := { program := "ytmihckhflbepjaadoor", sum := "db1943e4dc44d0ab7b5a8a20ca2689cacd703465224e3e571e9f9a00a55b327d", func := "proteus/proteuslaw08.ScopeNames", spec := "scopeNames", unfollowed := true, recurses := true, named := ["proteus/tree.signs"], loops := true, apart := false, laid := [("proteus/tree.signs", laid_proteus_tree_signs)], narrowed := true }
def ScopeNamesUptoSaid : Prop := scopeNamesUptoRow.holds Tryd.pinned (OpenSpec.upto scopeNamesSpec)

end Rows
end Go.Proofs.YtmihckhflbepjaaDoor
