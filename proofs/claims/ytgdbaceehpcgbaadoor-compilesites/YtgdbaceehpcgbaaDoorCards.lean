/-
  DERIVED. GIVEN WITH THE SEED: THE CARDS: each row of YtgdbaceehpcgbaaDoorRows.lean that lists a variable, with what it lists TIED to the program's text (the seventh form; the later family's looks); each row that meets fmt, with fmt's text TOLD by the authors' own Lean function (tested against real Go, not proved from fmt's source: count such statements apart). THE CARD IS WHAT COUNTS. Prove the row's statement (the work); the ties are given (YtgdbaceehpcgbaaDoorTie.lean); close each card by the builder's one call (the guide's Derived/Test/ToyasCard.lean, 'card_holds'). Laid BY PROGRAM, IN A SANDBOX (cutbox-door.mjs). By AI agents, Wed Nov 11 2026. No macro, syntax, notation, axiom, sorry.
-/
import Derived.Test.YtgdbaceehpcgbaaDoorRows
import GoSem.ClaimSeven
namespace Go.Proofs.YtgdbaceehpcgbaaDoor
namespace Rows

/-- THE TIED CARD OF 'proteuslaw15.CompileUnits'. -/
def compileUnitsCard : Claim7 := { stood := { row := compileUnitsRow, standIns := [], harness := (true, "9c31a867761a43e28d5f78fbfb89532fad3cc1587c39cf2682819e1fb18bc378"), looks := false }, kinds := [], alts := [], laidByText := true, laidKinds := [.data], laidTests := true, laidLooks := .later }
def CompileUnitsCardSaid : Prop := Claim7.holds Tryd.pinned (.plain (OpenSpec.ofChange compileUnitsSpec)) compileUnitsCard

/-- THE TIED CARD OF 'proteuslaw15.CompileMay'. -/
def compileMayCard : Claim7 := { stood := { row := compileMayRow, standIns := [], harness := (true, "9c31a867761a43e28d5f78fbfb89532fad3cc1587c39cf2682819e1fb18bc378"), looks := false }, kinds := [], alts := [], laidByText := true, laidKinds := [.data], laidTests := true, laidLooks := .later }
def CompileMayCardSaid : Prop := Claim7.holds Tryd.pinned (.plain (OpenSpec.ofChange compileMaySpec)) compileMayCard

/-- THE TIED CARD OF 'proteuslaw15.CompileTicks'. -/
def compileTicksCard : Claim7 := { stood := { row := compileTicksRow, standIns := [], harness := (true, "9c31a867761a43e28d5f78fbfb89532fad3cc1587c39cf2682819e1fb18bc378"), looks := false }, kinds := [], alts := [], laidByText := true, laidKinds := [.data], laidTests := true, laidLooks := .later }
def CompileTicksCardSaid : Prop := Claim7.holds Tryd.pinned (.plain (OpenSpec.ofChange compileTicksSpec)) compileTicksCard

/-- THE TIED CARD OF 'proteuslaw15.CompileSites'. -/
def compileSitesCard : Claim7 := { stood := { row := compileSitesRow, standIns := [], harness := (true, "9c31a867761a43e28d5f78fbfb89532fad3cc1587c39cf2682819e1fb18bc378"), looks := false }, kinds := [], alts := [], laidByText := true, laidKinds := [.data], laidTests := true, laidLooks := .later }
def CompileSitesCardSaid : Prop := Claim7.holds Tryd.pinned (.plain (OpenSpec.ofChange compileSitesSpec)) compileSitesCard

/-- THE TIED CARD OF 'proteuslaw15.CompileSums'. -/
def compileSumsCard : Claim7 := { stood := { row := compileSumsRow, standIns := [], harness := (true, "9c31a867761a43e28d5f78fbfb89532fad3cc1587c39cf2682819e1fb18bc378"), looks := false }, kinds := [], alts := [], laidByText := true, laidKinds := [.data], laidTests := true, laidLooks := .later }
def CompileSumsCardSaid : Prop := Claim7.holds Tryd.pinned (.plain (OpenSpec.ofChange compileSumsSpec)) compileSumsCard

/-- THE SECOND FORM's CARD OF 'proteuslaw15.CompileUnits'. -/
def compileUnitsUptoCard : Claim7 := { stood := { row := compileUnitsUptoRow, standIns := [], harness := (true, "9c31a867761a43e28d5f78fbfb89532fad3cc1587c39cf2682819e1fb18bc378"), looks := false }, kinds := [], alts := [], laidByText := true, laidKinds := [.data], laidTests := true, laidLooks := .later }
def CompileUnitsUptoCardSaid : Prop := Claim7.holds Tryd.pinned (.plain (OpenSpec.upto compileUnitsSpec)) compileUnitsUptoCard

/-- THE SECOND FORM's CARD OF 'proteuslaw15.CompileMay'. -/
def compileMayUptoCard : Claim7 := { stood := { row := compileMayUptoRow, standIns := [], harness := (true, "9c31a867761a43e28d5f78fbfb89532fad3cc1587c39cf2682819e1fb18bc378"), looks := false }, kinds := [], alts := [], laidByText := true, laidKinds := [.data], laidTests := true, laidLooks := .later }
def CompileMayUptoCardSaid : Prop := Claim7.holds Tryd.pinned (.plain (OpenSpec.upto compileMaySpec)) compileMayUptoCard

/-- THE SECOND FORM's CARD OF 'proteuslaw15.CompileTicks'. -/
def compileTicksUptoCard : Claim7 := { stood := { row := compileTicksUptoRow, standIns := [], harness := (true, "9c31a867761a43e28d5f78fbfb89532fad3cc1587c39cf2682819e1fb18bc378"), looks := false }, kinds := [], alts := [], laidByText := true, laidKinds := [.data], laidTests := true, laidLooks := .later }
def CompileTicksUptoCardSaid : Prop := Claim7.holds Tryd.pinned (.plain (OpenSpec.upto compileTicksSpec)) compileTicksUptoCard

/-- THE SECOND FORM's CARD OF 'proteuslaw15.CompileSites'. -/
def compileSitesUptoCard : Claim7 := { stood := { row := compileSitesUptoRow, standIns := [], harness := (true, "9c31a867761a43e28d5f78fbfb89532fad3cc1587c39cf2682819e1fb18bc378"), looks := false }, kinds := [], alts := [], laidByText := true, laidKinds := [.data], laidTests := true, laidLooks := .later }
def CompileSitesUptoCardSaid : Prop := Claim7.holds Tryd.pinned (.plain (OpenSpec.upto compileSitesSpec)) compileSitesUptoCard

/-- THE SECOND FORM's CARD OF 'proteuslaw15.CompileSums'. -/
def compileSumsUptoCard : Claim7 := { stood := { row := compileSumsUptoRow, standIns := [], harness := (true, "9c31a867761a43e28d5f78fbfb89532fad3cc1587c39cf2682819e1fb18bc378"), looks := false }, kinds := [], alts := [], laidByText := true, laidKinds := [.data], laidTests := true, laidLooks := .later }
def CompileSumsUptoCardSaid : Prop := Claim7.holds Tryd.pinned (.plain (OpenSpec.upto compileSumsSpec)) compileSumsUptoCard
end Rows
end Go.Proofs.YtgdbaceehpcgbaaDoor
