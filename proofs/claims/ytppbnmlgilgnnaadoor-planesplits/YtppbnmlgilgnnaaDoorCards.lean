/-
  DERIVED. GIVEN WITH THE SEED: THE CARDS: each row of YtppbnmlgilgnnaaDoorRows.lean that lists a variable, with what it lists TIED to the program's text (the seventh form; the later family's looks); each row that meets fmt, with fmt's text TOLD by the authors' own Lean function (tested against real Go, not proved from fmt's source: count such statements apart). THE CARD IS WHAT COUNTS. Prove the row's statement (the work); the ties are given (YtppbnmlgilgnnaaDoorTie.lean); close each card by the builder's one call (the guide's Derived/Test/ToyasCard.lean, 'card_holds'). Laid BY PROGRAM, IN A SANDBOX (cutbox-door.mjs). By AI agents, Wed Nov 11 2026. No macro, syntax, notation, axiom, sorry.
-/
import Derived.Test.YtppbnmlgilgnnaaDoorRows
import GoSem.ClaimSeven
namespace Go.Proofs.YtppbnmlgilgnnaaDoor
namespace Rows

/-- THE TIED CARD OF 'cyanotypelaw07.PlaneSplits'. -/
def planeSplitsCard : Claim7 := { stood := { row := planeSplitsRow, standIns := [], harness := (true, "ab5aa4f614d791b3d8cb4fdca616c939dd2ef51ee4a4484fecb3b38df204f3c9"), looks := false }, kinds := [], alts := [], laidByText := true, laidKinds := [.data, .data], laidTests := true, laidLooks := .later }
def PlaneSplitsCardSaid : Prop := Claim7.holds Tryd.pinned (.plain (OpenSpec.ofChange planeSplitsSpec)) planeSplitsCard

/-- THE TIED CARD OF 'cyanotypelaw07.PlaneGray'. -/
def planeGrayCard : Claim7 := { stood := { row := planeGrayRow, standIns := [], harness := (true, "ab5aa4f614d791b3d8cb4fdca616c939dd2ef51ee4a4484fecb3b38df204f3c9"), looks := false }, kinds := [], alts := [], laidByText := true, laidKinds := [.data, .data], laidTests := true, laidLooks := .later }
def PlaneGrayCardSaid : Prop := Claim7.holds Tryd.pinned (.plain (OpenSpec.ofChange planeGraySpec)) planeGrayCard

/-- THE TIED CARD OF 'cyanotypelaw07.PlaneFlat'. -/
def planeFlatCard : Claim7 := { stood := { row := planeFlatRow, standIns := [], harness := (true, "ab5aa4f614d791b3d8cb4fdca616c939dd2ef51ee4a4484fecb3b38df204f3c9"), looks := false }, kinds := [], alts := [], laidByText := true, laidKinds := [.data, .data], laidTests := true, laidLooks := .later }
def PlaneFlatCardSaid : Prop := Claim7.holds Tryd.pinned (.plain (OpenSpec.ofChange planeFlatSpec)) planeFlatCard

/-- THE TIED CARD OF 'cyanotypelaw07.PlaneCounts'. -/
def planeCountsCard : Claim7 := { stood := { row := planeCountsRow, standIns := [], harness := (true, "ab5aa4f614d791b3d8cb4fdca616c939dd2ef51ee4a4484fecb3b38df204f3c9"), looks := false }, kinds := [], alts := [], laidByText := true, laidKinds := [.data, .data], laidTests := true, laidLooks := .later }
def PlaneCountsCardSaid : Prop := Claim7.holds Tryd.pinned (.plain (OpenSpec.ofChange planeCountsSpec)) planeCountsCard

/-- THE TIED CARD OF 'cyanotypelaw07.PlaneEdges'. -/
def planeEdgesCard : Claim7 := { stood := { row := planeEdgesRow, standIns := [], harness := (true, "ab5aa4f614d791b3d8cb4fdca616c939dd2ef51ee4a4484fecb3b38df204f3c9"), looks := false }, kinds := [], alts := [], laidByText := true, laidKinds := [.data, .data], laidTests := true, laidLooks := .later }
def PlaneEdgesCardSaid : Prop := Claim7.holds Tryd.pinned (.plain (OpenSpec.ofChange planeEdgesSpec)) planeEdgesCard

/-- THE TIED CARD OF 'cyanotypelaw07.PlaneSmall'. -/
def planeSmallCard : Claim7 := { stood := { row := planeSmallRow, standIns := [], harness := (true, "ab5aa4f614d791b3d8cb4fdca616c939dd2ef51ee4a4484fecb3b38df204f3c9"), looks := false }, kinds := [], alts := [], laidByText := true, laidKinds := [.data, .data], laidTests := true, laidLooks := .later }
def PlaneSmallCardSaid : Prop := Claim7.holds Tryd.pinned (.plain (OpenSpec.ofChange planeSmallSpec)) planeSmallCard

/-- THE SECOND FORM's CARD OF 'cyanotypelaw07.PlaneSplits'. -/
def planeSplitsUptoCard : Claim7 := { stood := { row := planeSplitsUptoRow, standIns := [], harness := (true, "ab5aa4f614d791b3d8cb4fdca616c939dd2ef51ee4a4484fecb3b38df204f3c9"), looks := false }, kinds := [], alts := [], laidByText := true, laidKinds := [.data, .data], laidTests := true, laidLooks := .later }
def PlaneSplitsUptoCardSaid : Prop := Claim7.holds Tryd.pinned (.plain (OpenSpec.upto planeSplitsSpec)) planeSplitsUptoCard

/-- THE SECOND FORM's CARD OF 'cyanotypelaw07.PlaneGray'. -/
def planeGrayUptoCard : Claim7 := { stood := { row := planeGrayUptoRow, standIns := [], harness := (true, "ab5aa4f614d791b3d8cb4fdca616c939dd2ef51ee4a4484fecb3b38df204f3c9"), looks := false }, kinds := [], alts := [], laidByText := true, laidKinds := [.data, .data], laidTests := true, laidLooks := .later }
def PlaneGrayUptoCardSaid : Prop := Claim7.holds Tryd.pinned (.plain (OpenSpec.upto planeGraySpec)) planeGrayUptoCard

/-- THE SECOND FORM's CARD OF 'cyanotypelaw07.PlaneFlat'. -/
def planeFlatUptoCard : Claim7 := { stood := { row := planeFlatUptoRow, standIns := [], harness := (true, "ab5aa4f614d791b3d8cb4fdca616c939dd2ef51ee4a4484fecb3b38df204f3c9"), looks := false }, kinds := [], alts := [], laidByText := true, laidKinds := [.data, .data], laidTests := true, laidLooks := .later }
def PlaneFlatUptoCardSaid : Prop := Claim7.holds Tryd.pinned (.plain (OpenSpec.upto planeFlatSpec)) planeFlatUptoCard

/-- THE SECOND FORM's CARD OF 'cyanotypelaw07.PlaneCounts'. -/
def planeCountsUptoCard : Claim7 := { stood := { row := planeCountsUptoRow, standIns := [], harness := (true, "ab5aa4f614d791b3d8cb4fdca616c939dd2ef51ee4a4484fecb3b38df204f3c9"), looks := false }, kinds := [], alts := [], laidByText := true, laidKinds := [.data, .data], laidTests := true, laidLooks := .later }
def PlaneCountsUptoCardSaid : Prop := Claim7.holds Tryd.pinned (.plain (OpenSpec.upto planeCountsSpec)) planeCountsUptoCard

/-- THE SECOND FORM's CARD OF 'cyanotypelaw07.PlaneEdges'. -/
def planeEdgesUptoCard : Claim7 := { stood := { row := planeEdgesUptoRow, standIns := [], harness := (true, "ab5aa4f614d791b3d8cb4fdca616c939dd2ef51ee4a4484fecb3b38df204f3c9"), looks := false }, kinds := [], alts := [], laidByText := true, laidKinds := [.data, .data], laidTests := true, laidLooks := .later }
def PlaneEdgesUptoCardSaid : Prop := Claim7.holds Tryd.pinned (.plain (OpenSpec.upto planeEdgesSpec)) planeEdgesUptoCard

/-- THE SECOND FORM's CARD OF 'cyanotypelaw07.PlaneSmall'. -/
def planeSmallUptoCard : Claim7 := { stood := { row := planeSmallUptoRow, standIns := [], harness := (true, "ab5aa4f614d791b3d8cb4fdca616c939dd2ef51ee4a4484fecb3b38df204f3c9"), looks := false }, kinds := [], alts := [], laidByText := true, laidKinds := [.data, .data], laidTests := true, laidLooks := .later }
def PlaneSmallUptoCardSaid : Prop := Claim7.holds Tryd.pinned (.plain (OpenSpec.upto planeSmallSpec)) planeSmallUptoCard
end Rows
end Go.Proofs.YtppbnmlgilgnnaaDoor
