/-
  DERIVED. GIVEN WITH THE SEED: THE CARDS: each row of YthaekjdnaaikfaaDoorRows.lean that lists a variable, with what it lists TIED to the program's text (the seventh form; the later family's looks); each row that meets fmt, with fmt's text TOLD by the authors' own Lean function (tested against real Go, not proved from fmt's source: count such statements apart). THE CARD IS WHAT COUNTS. Prove the row's statement (the work); the ties are given (YthaekjdnaaikfaaDoorTie.lean); close each card by the builder's one call (the guide's Derived/Test/ToyasCard.lean, 'card_holds'). Laid BY PROGRAM, IN A SANDBOX (cutbox-door.mjs). By AI agents, Wed Nov 11 2026. No macro, syntax, notation, axiom, sorry.
-/
import Derived.Test.YthaekjdnaaikfaaDoorRows
import GoSem.ClaimSeven
namespace Go.Proofs.YthaekjdnaaikfaaDoor
namespace Rows

/-- THE TIED CARD OF 'cyanotypelaw09.QuantTables'. -/
def quantTablesCard : Claim7 := { stood := { row := quantTablesRow, standIns := [], harness := (true, "46fc36d20289c1d8558ca7217b64117d3ce896ab9e13941ddc5f364336e3b7db"), looks := false }, kinds := [], alts := [], laidByText := true, laidKinds := [.data, .data], laidTests := true, laidLooks := .later }
def QuantTablesCardSaid : Prop := Claim7.holds Tryd.pinned (.plain (OpenSpec.ofChange quantTablesSpec)) quantTablesCard

/-- THE TIED CARD OF 'cyanotypelaw09.QuantSteps'. -/
def quantStepsCard : Claim7 := { stood := { row := quantStepsRow, standIns := [], harness := (true, "46fc36d20289c1d8558ca7217b64117d3ce896ab9e13941ddc5f364336e3b7db"), looks := false }, kinds := [], alts := [], laidByText := true, laidKinds := [.data, .data], laidTests := true, laidLooks := .later }
def QuantStepsCardSaid : Prop := Claim7.holds Tryd.pinned (.plain (OpenSpec.ofChange quantStepsSpec)) quantStepsCard

/-- THE TIED CARD OF 'cyanotypelaw09.QuantNear'. -/
def quantNearCard : Claim7 := { stood := { row := quantNearRow, standIns := [], harness := (true, "46fc36d20289c1d8558ca7217b64117d3ce896ab9e13941ddc5f364336e3b7db"), looks := false }, kinds := [], alts := [], laidByText := true, laidKinds := [.data, .data], laidTests := true, laidLooks := .later }
def QuantNearCardSaid : Prop := Claim7.holds Tryd.pinned (.plain (OpenSpec.ofChange quantNearSpec)) quantNearCard

/-- THE TIED CARD OF 'cyanotypelaw09.QuantOrder'. -/
def quantOrderCard : Claim7 := { stood := { row := quantOrderRow, standIns := [], harness := (true, "46fc36d20289c1d8558ca7217b64117d3ce896ab9e13941ddc5f364336e3b7db"), looks := false }, kinds := [], alts := [], laidByText := true, laidKinds := [.data, .data], laidTests := true, laidLooks := .later }
def QuantOrderCardSaid : Prop := Claim7.holds Tryd.pinned (.plain (OpenSpec.ofChange quantOrderSpec)) quantOrderCard

/-- THE TIED CARD OF 'cyanotypelaw09.QuantEnds'. -/
def quantEndsCard : Claim7 := { stood := { row := quantEndsRow, standIns := [], harness := (true, "46fc36d20289c1d8558ca7217b64117d3ce896ab9e13941ddc5f364336e3b7db"), looks := false }, kinds := [], alts := [], laidByText := true, laidKinds := [.data, .data], laidTests := true, laidLooks := .later }
def QuantEndsCardSaid : Prop := Claim7.holds Tryd.pinned (.plain (OpenSpec.ofChange quantEndsSpec)) quantEndsCard

/-- THE TIED CARD OF 'cyanotypelaw09.QuantTells'. -/
def quantTellsCard : Claim7 := { stood := { row := quantTellsRow, standIns := [], harness := (true, "46fc36d20289c1d8558ca7217b64117d3ce896ab9e13941ddc5f364336e3b7db"), looks := false }, kinds := [], alts := [], laidByText := true, laidKinds := [.data, .data], laidTests := true, laidLooks := .later }
def QuantTellsCardSaid : Prop := Claim7.holds Tryd.pinned (.plain (OpenSpec.ofChange quantTellsSpec)) quantTellsCard

/-- THE SECOND FORM's CARD OF 'cyanotypelaw09.QuantTables'. -/
def quantTablesUptoCard : Claim7 := { stood := { row := quantTablesUptoRow, standIns := [], harness := (true, "46fc36d20289c1d8558ca7217b64117d3ce896ab9e13941ddc5f364336e3b7db"), looks := false }, kinds := [], alts := [], laidByText := true, laidKinds := [.data, .data], laidTests := true, laidLooks := .later }
def QuantTablesUptoCardSaid : Prop := Claim7.holds Tryd.pinned (.plain (OpenSpec.upto quantTablesSpec)) quantTablesUptoCard

/-- THE SECOND FORM's CARD OF 'cyanotypelaw09.QuantSteps'. -/
def quantStepsUptoCard : Claim7 := { stood := { row := quantStepsUptoRow, standIns := [], harness := (true, "46fc36d20289c1d8558ca7217b64117d3ce896ab9e13941ddc5f364336e3b7db"), looks := false }, kinds := [], alts := [], laidByText := true, laidKinds := [.data, .data], laidTests := true, laidLooks := .later }
def QuantStepsUptoCardSaid : Prop := Claim7.holds Tryd.pinned (.plain (OpenSpec.upto quantStepsSpec)) quantStepsUptoCard

/-- THE SECOND FORM's CARD OF 'cyanotypelaw09.QuantNear'. -/
def quantNearUptoCard : Claim7 := { stood := { row := quantNearUptoRow, standIns := [], harness := (true, "46fc36d20289c1d8558ca7217b64117d3ce896ab9e13941ddc5f364336e3b7db"), looks := false }, kinds := [], alts := [], laidByText := true, laidKinds := [.data, .data], laidTests := true, laidLooks := .later }
def QuantNearUptoCardSaid : Prop := Claim7.holds Tryd.pinned (.plain (OpenSpec.upto quantNearSpec)) quantNearUptoCard

/-- THE SECOND FORM's CARD OF 'cyanotypelaw09.QuantOrder'. -/
def quantOrderUptoCard : Claim7 := { stood := { row := quantOrderUptoRow, standIns := [], harness := (true, "46fc36d20289c1d8558ca7217b64117d3ce896ab9e13941ddc5f364336e3b7db"), looks := false }, kinds := [], alts := [], laidByText := true, laidKinds := [.data, .data], laidTests := true, laidLooks := .later }
def QuantOrderUptoCardSaid : Prop := Claim7.holds Tryd.pinned (.plain (OpenSpec.upto quantOrderSpec)) quantOrderUptoCard

/-- THE SECOND FORM's CARD OF 'cyanotypelaw09.QuantEnds'. -/
def quantEndsUptoCard : Claim7 := { stood := { row := quantEndsUptoRow, standIns := [], harness := (true, "46fc36d20289c1d8558ca7217b64117d3ce896ab9e13941ddc5f364336e3b7db"), looks := false }, kinds := [], alts := [], laidByText := true, laidKinds := [.data, .data], laidTests := true, laidLooks := .later }
def QuantEndsUptoCardSaid : Prop := Claim7.holds Tryd.pinned (.plain (OpenSpec.upto quantEndsSpec)) quantEndsUptoCard

/-- THE SECOND FORM's CARD OF 'cyanotypelaw09.QuantTells'. -/
def quantTellsUptoCard : Claim7 := { stood := { row := quantTellsUptoRow, standIns := [], harness := (true, "46fc36d20289c1d8558ca7217b64117d3ce896ab9e13941ddc5f364336e3b7db"), looks := false }, kinds := [], alts := [], laidByText := true, laidKinds := [.data, .data], laidTests := true, laidLooks := .later }
def QuantTellsUptoCardSaid : Prop := Claim7.holds Tryd.pinned (.plain (OpenSpec.upto quantTellsSpec)) quantTellsUptoCard
end Rows
end Go.Proofs.YthaekjdnaaikfaaDoor
