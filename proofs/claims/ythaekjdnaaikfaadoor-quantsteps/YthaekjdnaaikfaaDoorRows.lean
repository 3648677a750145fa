/-
  NARROWER THAN 'FOR EVERY INPUT', by the rows' own cells (each row's printed sentence says how): QuantTables: laid · QuantSteps: laid · QuantNear: laid · QuantOrder: laid · QuantEnds: laid · QuantTells: laid.
  DERIVED. THE GIVEN ROWS OF THIS SEAT. 6 by the template 'for every input the law returns true; each argument reads behind the call as it read before'; 0 by the template 'total and deterministic' (their statements: YthaekjdnaaikfaaDoorTotals.lean).
  GIVEN WITH THE SEED: the statements are not yours to turn. If you find one false, say at which input.
  Laid BY PROGRAM, IN A SANDBOX (cutbox-rows.mjs): the forced cells as the released guide's own fill.sh prints them over the translation c2830c5a9b2bc9c1… (all of the seat's roots in one cut). By AI agents, Wed Nov 11 2026. No macro, syntax, notation, axiom, sorry.
-/
import Derived.Test.YthaekjdnaaikfaaDoorChecked
import GoSem.Claim
import GoSem.ClaimJoined
import GoSem.ClaimMapViews
import Derived.JoinedTies
import Derived.KernelRfl
namespace Go.Proofs.YthaekjdnaaikfaaDoor
/- THE CELL 'sum', in the pinned program and in every row, IS THE sha256 OF THE DUMP (.gsa) THAT YthaekjdnaaikfaaDoorProg.lean LOADS. Nothing in Lean hashes anything: it is a label: what it is worth is what the hold of that sum in a sandbox is worth. -/
noncomputable def Tryd.pinned : Pinned := { name := "ythaekjdnaaikfaadoor", sum := "c2830c5a9b2bc9c17b2825c7a25669c0e7ac4ac51c322a75b7879d8b945b9dd4", checked := Tryd.checked }
namespace Rows
def none {H : Type} : Left H := { results := [], args := [] }

/- WHAT THE LISTED PACKAGE-LEVEL VARIABLES READ AS WHEN THE CALL BEGINS. Each datum BY PROGRAM (the guide's laid-datum.mjs) off the statement by which the dump's own 'gosem.cut.vars' lays the variable. In a bare row this is a premise. The card (YthaekjdnaaikfaaDoorCards.lean) ties it to the program's text. -/
def laid_cyanotype_quant_order {H : Type} : DataW H := .agg [.lit (.int .u8 0), .lit (.int .u8 1), .lit (.int .u8 8), .lit (.int .u8 16), .lit (.int .u8 9), .lit (.int .u8 2), .lit (.int .u8 3), .lit (.int .u8 10), .lit (.int .u8 17), .lit (.int .u8 24), .lit (.int .u8 32), .lit (.int .u8 25), .lit (.int .u8 18), .lit (.int .u8 11), .lit (.int .u8 4), .lit (.int .u8 5), .lit (.int .u8 12), .lit (.int .u8 19), .lit (.int .u8 26), .lit (.int .u8 33), .lit (.int .u8 40), .lit (.int .u8 48), .lit (.int .u8 41), .lit (.int .u8 34), .lit (.int .u8 27), .lit (.int .u8 20), .lit (.int .u8 13), .lit (.int .u8 6), .lit (.int .u8 7), .lit (.int .u8 14), .lit (.int .u8 21), .lit (.int .u8 28), .lit (.int .u8 35), .lit (.int .u8 42), .lit (.int .u8 49), .lit (.int .u8 56), .lit (.int .u8 57), .lit (.int .u8 50), .lit (.int .u8 43), .lit (.int .u8 36), .lit (.int .u8 29), .lit (.int .u8 22), .lit (.int .u8 15), .lit (.int .u8 23), .lit (.int .u8 30), .lit (.int .u8 37), .lit (.int .u8 44), .lit (.int .u8 51), .lit (.int .u8 58), .lit (.int .u8 59), .lit (.int .u8 52), .lit (.int .u8 45), .lit (.int .u8 38), .lit (.int .u8 31), .lit (.int .u8 39), .lit (.int .u8 46), .lit (.int .u8 53), .lit (.int .u8 60), .lit (.int .u8 61), .lit (.int .u8 54), .lit (.int .u8 47), .lit (.int .u8 55), .lit (.int .u8 62), .lit (.int .u8 63)]
def laid_cyanotype_quant_lists {H : Type} : DataW H := .agg [.agg [.lit (.int .u8 16), .lit (.int .u8 11), .lit (.int .u8 10), .lit (.int .u8 16), .lit (.int .u8 24), .lit (.int .u8 40), .lit (.int .u8 51), .lit (.int .u8 61), .lit (.int .u8 12), .lit (.int .u8 12), .lit (.int .u8 14), .lit (.int .u8 19), .lit (.int .u8 26), .lit (.int .u8 58), .lit (.int .u8 60), .lit (.int .u8 55), .lit (.int .u8 14), .lit (.int .u8 13), .lit (.int .u8 16), .lit (.int .u8 24), .lit (.int .u8 40), .lit (.int .u8 57), .lit (.int .u8 69), .lit (.int .u8 56), .lit (.int .u8 14), .lit (.int .u8 17), .lit (.int .u8 22), .lit (.int .u8 29), .lit (.int .u8 51), .lit (.int .u8 87), .lit (.int .u8 80), .lit (.int .u8 62), .lit (.int .u8 18), .lit (.int .u8 22), .lit (.int .u8 37), .lit (.int .u8 56), .lit (.int .u8 68), .lit (.int .u8 109), .lit (.int .u8 103), .lit (.int .u8 77), .lit (.int .u8 24), .lit (.int .u8 35), .lit (.int .u8 55), .lit (.int .u8 64), .lit (.int .u8 81), .lit (.int .u8 104), .lit (.int .u8 113), .lit (.int .u8 92), .lit (.int .u8 49), .lit (.int .u8 64), .lit (.int .u8 78), .lit (.int .u8 87), .lit (.int .u8 103), .lit (.int .u8 121), .lit (.int .u8 120), .lit (.int .u8 101), .lit (.int .u8 72), .lit (.int .u8 92), .lit (.int .u8 95), .lit (.int .u8 98), .lit (.int .u8 112), .lit (.int .u8 100), .lit (.int .u8 103), .lit (.int .u8 99)], .agg [.lit (.int .u8 17), .lit (.int .u8 18), .lit (.int .u8 24), .lit (.int .u8 47), .lit (.int .u8 99), .lit (.int .u8 99), .lit (.int .u8 99), .lit (.int .u8 99), .lit (.int .u8 18), .lit (.int .u8 21), .lit (.int .u8 26), .lit (.int .u8 66), .lit (.int .u8 99), .lit (.int .u8 99), .lit (.int .u8 99), .lit (.int .u8 99), .lit (.int .u8 24), .lit (.int .u8 26), .lit (.int .u8 56), .lit (.int .u8 99), .lit (.int .u8 99), .lit (.int .u8 99), .lit (.int .u8 99), .lit (.int .u8 99), .lit (.int .u8 47), .lit (.int .u8 66), .lit (.int .u8 99), .lit (.int .u8 99), .lit (.int .u8 99), .lit (.int .u8 99), .lit (.int .u8 99), .lit (.int .u8 99), .lit (.int .u8 99), .lit (.int .u8 99), .lit (.int .u8 99), .lit (.int .u8 99), .lit (.int .u8 99), .lit (.int .u8 99), .lit (.int .u8 99), .lit (.int .u8 99), .lit (.int .u8 99), .lit (.int .u8 99), .lit (.int .u8 99), .lit (.int .u8 99), .lit (.int .u8 99), .lit (.int .u8 99), .lit (.int .u8 99), .lit (.int .u8 99), .lit (.int .u8 99), .lit (.int .u8 99), .lit (.int .u8 99), .lit (.int .u8 99), .lit (.int .u8 99), .lit (.int .u8 99), .lit (.int .u8 99), .lit (.int .u8 99), .lit (.int .u8 99), .lit (.int .u8 99), .lit (.int .u8 99), .lit (.int .u8 99), .lit (.int .u8 99), .lit (.int .u8 99), .lit (.int .u8 99), .lit (.int .u8 99)]]

/-- 'cyanotypelaw09.QuantTables': WHATEVER THE INPUT: true; the input reads as it did. -/
def quantTablesSpec : ChangeSpec := { name := "quantTables", fn := fun _ => fun
  | [d1, d2, d3, d4, d5] => { results := [.lit (.bool true)], args := [d1, d2, d3, d4, d5] }
  | _ => none }
def quantTablesRow : OpenClaim := { program := "ythaekjdnaaikfaadoor", sum := "c2830c5a9b2bc9c17b2825c7a25669c0e7ac4ac51c322a75b7879d8b945b9dd4", func := "cyanotype/cyanotypelaw09.QuantTables", spec := "quantTables", named := ["cyanotype/quant.lists", "cyanotype/quant.order"], apart := false, laid := [("cyanotype/quant.order", laid_cyanotype_quant_order), ("cyanotype/quant.lists", laid_cyanotype_quant_lists)] }
def QuantTablesSaid : Prop := quantTablesRow.holds Tryd.pinned (OpenSpec.ofChange quantTablesSpec)

/-- ITS FALSE NEIGHBOUR: 'it returns false'. Refute it at one input. -/
def quantTablesWrong : ChangeSpec := { name := "quantTables", fn := fun _ => fun
  | [d1, d2, d3, d4, d5] => { results := [.lit (.bool false)], args := [d1, d2, d3, d4, d5] }
  | _ => none }
def QuantTablesWrongFalsely : Prop := quantTablesRow.holds Tryd.pinned (OpenSpec.ofChange quantTablesWrong)

/-- 'cyanotypelaw09.QuantSteps': WHATEVER THE INPUT: true; the input reads as it did. -/
def quantStepsSpec : ChangeSpec := { name := "quantSteps", fn := fun _ => fun
  | [d1, d2, d3, d4] => { results := [.lit (.bool true)], args := [d1, d2, d3, d4] }
  | _ => none }
def quantStepsRow : OpenClaim := { program := "ythaekjdnaaikfaadoor", sum := "c2830c5a9b2bc9c17b2825c7a25669c0e7ac4ac51c322a75b7879d8b945b9dd4", func := "cyanotype/cyanotypelaw09.QuantSteps", spec := "quantSteps", unfollowed := true, recurses := true, named := ["cyanotype/quant.order", "cyanotype/quant.lists"], apart := false, laid := [("cyanotype/quant.order", laid_cyanotype_quant_order), ("cyanotype/quant.lists", laid_cyanotype_quant_lists)] }
def QuantStepsSaid : Prop := quantStepsRow.holds Tryd.pinned (OpenSpec.ofChange quantStepsSpec)

/-- ITS FALSE NEIGHBOUR: 'it returns false'. Refute it at one input. -/
def quantStepsWrong : ChangeSpec := { name := "quantSteps", fn := fun _ => fun
  | [d1, d2, d3, d4] => { results := [.lit (.bool false)], args := [d1, d2, d3, d4] }
  | _ => none }
def QuantStepsWrongFalsely : Prop := quantStepsRow.holds Tryd.pinned (OpenSpec.ofChange quantStepsWrong)

/-- 'cyanotypelaw09.QuantNear': WHATEVER THE INPUT: true; the input reads as it did. -/
def quantNearSpec : ChangeSpec := { name := "quantNear", fn := fun _ => fun
  | [d1, d2, d3] => { results := [.lit (.bool true)], args := [d1, d2, d3] }
  | _ => none }
def quantNearRow : OpenClaim := { program := "ythaekjdnaaikfaadoor", sum := "c2830c5a9b2bc9c17b2825c7a25669c0e7ac4ac51c322a75b7879d8b945b9dd4", func := "cyanotype/cyanotypelaw09.QuantNear", spec := "quantNear", unfollowed := true, recurses := true, named := ["cyanotype/quant.order", "cyanotype/quant.lists"], apart := false, laid := [("cyanotype/quant.order", laid_cyanotype_quant_order), ("cyanotype/quant.lists", laid_cyanotype_quant_lists)] }
def QuantNearSaid : Prop := quantNearRow.holds Tryd.pinned (OpenSpec.ofChange quantNearSpec)

/-- ITS FALSE NEIGHBOUR: 'it returns false'. Refute it at one input. -/
def quantNearWrong : ChangeSpec := { name := "quantNear", fn := fun _ => fun
  | [d1, d2, d3] => { results := [.lit (.bool false)], args := [d1, d2, d3] }
  | _ => none }
def QuantNearWrongFalsely : Prop := quantNearRow.holds Tryd.pinned (OpenSpec.ofChange quantNearWrong)

/-- 'cyanotypelaw09.QuantOrder': WHATEVER THE INPUT: true; the input reads as it did. -/
def quantOrderSpec : ChangeSpec := { name := "quantOrder", fn := fun _ => fun
  | [d1, d2, d3, d4] => { results := [.lit (.bool true)], args := [d1, d2, d3, d4] }
  | _ => none }
def quantOrderRow : OpenClaim := { program := "ythaekjdnaaikfaadoor", sum := "c2830c5a9b2bc9c17b2825c7a25669c0e7ac4ac51c322a75b7879d8b945b9dd4", func := "cyanotype/cyanotypelaw09.QuantOrder", spec := "quantOrder", named := ["cyanotype/quant.order", "cyanotype/quant.lists"], apart := false, laid := [("cyanotype/quant.order", laid_cyanotype_quant_order), ("cyanotype/quant.lists", laid_cyanotype_quant_lists)] }
def QuantOrderSaid : Prop := quantOrderRow.holds Tryd.pinned (OpenSpec.ofChange quantOrderSpec)

/-- ITS FALSE NEIGHBOUR: 'it returns false'. Refute it at one input. -/
def quantOrderWrong : ChangeSpec := { name := "quantOrder", fn := fun _ => fun
  | [d1, d2, d3, d4] => { results := [.lit (.bool false)], args := [d1, d2, d3, d4] }
  | _ => none }
def QuantOrderWrongFalsely : Prop := quantOrderRow.holds Tryd.pinned (OpenSpec.ofChange quantOrderWrong)

/-- 'cyanotypelaw09.QuantEnds': WHATEVER THE INPUT: true; the input reads as it did. -/
def quantEndsSpec : ChangeSpec := { name := "quantEnds", fn := fun _ => fun
  | [d1, d2] => { results := [.lit (.bool true)], args := [d1, d2] }
  | _ => none }
def quantEndsRow : OpenClaim := { program := "ythaekjdnaaikfaadoor", sum := "c2830c5a9b2bc9c17b2825c7a25669c0e7ac4ac51c322a75b7879d8b945b9dd4", func := "cyanotype/cyanotypelaw09.QuantEnds", spec := "quantEnds", unfollowed := true, recurses := true, named := ["cyanotype/quant.order", "cyanotype/quant.lists"], apart := false, laid := [("cyanotype/quant.order", laid_cyanotype_quant_order), ("cyanotype/quant.lists", laid_cyanotype_quant_lists)] }
def QuantEndsSaid : Prop := quantEndsRow.holds Tryd.pinned (OpenSpec.ofChange quantEndsSpec)

/-- ITS FALSE NEIGHBOUR: 'it returns false'. Refute it at one input. -/
def quantEndsWrong : ChangeSpec := { name := "quantEnds", fn := fun _ => fun
  | [d1, d2] => { results := [.lit (.bool false)], args := [d1, d2] }
  | _ => none }
def QuantEndsWrongFalsely : Prop := quantEndsRow.holds Tryd.pinned (OpenSpec.ofChange quantEndsWrong)

/-- 'cyanotypelaw09.QuantTells': WHATEVER THE INPUT: true; the input reads as it did. -/
def quantTellsSpec : ChangeSpec := { name := "quantTells", fn := fun _ => fun
  | [d1, d2] => { results := [.lit (.bool true)], args := [d1, d2] }
  | _ => none }
def quantTellsRow : OpenClaim := { program := "ythaekjdnaaikfaadoor", sum := "c2830c5a9b2bc9c17b2825c7a25669c0e7ac4ac51c322a75b7879d8b945b9dd4", func := "cyanotype/cyanotypelaw09.QuantTells", spec := "quantTells", unfollowed := true, recurses := true, named := ["cyanotype/quant.lists", "cyanotype/quant.order"], apart := false, laid := [("cyanotype/quant.order", laid_cyanotype_quant_order), ("cyanotype/quant.lists", laid_cyanotype_quant_lists)] }
def QuantTellsSaid : Prop := quantTellsRow.holds Tryd.pinned (OpenSpec.ofChange quantTellsSpec)

/-- ITS FALSE NEIGHBOUR: 'it returns false'. Refute it at one input. -/
def quantTellsWrong : ChangeSpec := { name := "quantTells", fn := fun _ => fun
  | [d1, d2] => { results := [.lit (.bool false)], args := [d1, d2] }
  | _ => none }
def QuantTellsWrongFalsely : Prop := quantTellsRow.holds Tryd.pinned (OpenSpec.ofChange quantTellsWrong)

/- THE SECOND FORM. 'bulk': how many values and letters a reading holds, each counted each time it is reached (what is shared counts as often as it is met; a slice's spare places count too). A statement '..UptoSaid' is the law's where the arguments, and the package variables that the reading takes, are together of bulk at most 1048576: NARROWER than '..Said'. Prove '..Said' where nothing that the law and all that it calls make is longer than what came in: it says more and counts as full. Else prove '..UptoSaid'. A law counts once. -/
mutual
def uptoBulk {H : Type} : DataW H → Nat
  | .lit (.string bytes) => bytes.length + 1
  | .lit _ => 1
  | .nil => 1
  | .ptr d => uptoBulk d + 1
  | .slice elems spare => uptoBulkAll elems + uptoBulkAll spare + 1
  | .agg parts => uptoBulkAll parts + 1
  | .iface _ d => uptoBulk d + 1
  | .map entries => uptoBulkEntries entries + 1
  | .held _ => 1
def uptoBulkAll {H : Type} : List (DataW H) → Nat
  | [] => 0
  | d :: r => uptoBulk d + uptoBulkAll r
def uptoBulkEntries {H : Type} : List (Lit × DataW H) → Nat
  | [] => 0
  | x :: r => uptoBulkEntry x + uptoBulkEntries r
def uptoBulkEntry {H : Type} : Lit × DataW H → Nat
  | (.string bytes, d) => bytes.length + uptoBulk d + 1
  | (_, d) => uptoBulk d + 1
 end
def uptoSmall : (H : Type) → List (DataW H) → Bool := fun _ ds => decide (uptoBulkAll ds ≤ 1048576)
def OpenSpec.upto (s : _root_.Go.ChangeSpec) : _root_.Go.OpenSpec := { _root_.Go.OpenSpec.ofChange s with cond := some uptoSmall }

/-- 'cyanotypelaw09.QuantTables', WHERE WHAT IT READS IS OF BULK AT MOST 1048576: true; the input reads as it did. -/
def quantTablesUptoRow : OpenClaim := { program := "ythaekjdnaaikfaadoor", sum := "c2830c5a9b2bc9c17b2825c7a25669c0e7ac4ac51c322a75b7879d8b945b9dd4", func := "cyanotype/cyanotypelaw09.QuantTables", spec := "quantTables", named := ["cyanotype/quant.lists", "cyanotype/quant.order"], apart := false, laid := [("cyanotype/quant.order", laid_cyanotype_quant_order), ("cyanotype/quant.lists", laid_cyanotype_quant_lists)], narrowed := true }
def QuantTablesUptoSaid : Prop := quantTablesUptoRow.holds Tryd.pinned (OpenSpec.upto quantTablesSpec)

/-- 'cyanotypelaw09.QuantSteps', WHERE WHAT IT READS IS OF BULK AT MOST 1048576: true; the input reads as it did. -/
def quantStepsUptoRow : OpenClaim := { program := "ythaekjdnaaikfaadoor", sum := "c2830c5a9b2bc9c17b2825c7a25669c0e7ac4ac51c322a75b7879d8b945b9dd4", func := "cyanotype/cyanotypelaw09.QuantSteps", spec := "quantSteps", unfollowed := true, recurses := true, named := ["cyanotype/quant.order", "cyanotype/quant.lists"], apart := false, laid := [("cyanotype/quant.order", laid_cyanotype_quant_order), ("cyanotype/quant.lists", laid_cyanotype_quant_lists)], narrowed := true }
def QuantStepsUptoSaid : Prop := quantStepsUptoRow.holds Tryd.pinned (OpenSpec.upto quantStepsSpec)

/-- 'cyanotypelaw09.QuantNear', WHERE WHAT IT READS IS OF BULK AT MOST 1048576: true; the input reads as it did. -/
def quantNearUptoRow : OpenClaim := { program := "ythaekjdnaaikfaadoor", sum := "c2830c5a9b2bc9c17b2825c7a25669c0e7ac4ac51c322a75b7879d8b945b9dd4", func := "cyanotype/cyanotypelaw09.QuantNear", spec := "quantNear", unfollowed := true, recurses := true, named := ["cyanotype/quant.order", "cyanotype/quant.lists"], apart := false, laid := [("cyanotype/quant.order", laid_cyanotype_quant_order), ("cyanotype/quant.lists", laid_cyanotype_quant_lists)], narrowed := true }
def QuantNearUptoSaid : Prop := quantNearUptoRow.holds Tryd.pinned (OpenSpec.upto quantNearSpec)

/-- 'cyanotypelaw09.QuantOrder', WHERE WHAT IT READS IS OF BULK AT MOST 1048576: true; the input reads as it did. -/
def quantOrderUptoRow : OpenClaim := { program := "ythaekjdnaaikfaadoor", sum := "c2830c5a9b2bc9c17b2825c7a25669c0e7ac4ac51c322a75b7879d8b945b9dd4", func := "cyanotype/cyanotypelaw09.QuantOrder", spec := "quantOrder", named := ["cyanotype/quant.order", "cyanotype/quant.lists"], apart := false, laid := [("cyanotype/quant.order", laid_cyanotype_quant_order), ("cyanotype/quant.lists", laid_cyanotype_quant_lists)], narrowed := true }
def QuantOrderUptoSaid : Prop := quantOrderUptoRow.holds Tryd.pinned (OpenSpec.upto quantOrderSpec)

/-- 'cyanotypelaw09.QuantEnds', WHERE WHAT IT READS IS OF BULK AT MOST 1048576: true; the input reads as it did. -/
def quantEndsUptoRow : OpenClaim := { program := "ythaekjdnaaikfaadoor", sum := "c2830c5a9b2bc9c17b2825c7a25669c0e7ac4ac51c322a75b7879d8b945b9dd4", func := "cyanotype/cyanotypelaw09.QuantEnds", spec := "quantEnds", unfollowed := true, recurses := true, named := ["cyanotype/quant.order", "cyanotype/quant.lists"], apart := false, laid := [("cyanotype/quant.order", laid_cyanotype_quant_order), ("cyanotype/quant.lists", laid_cyanotype_quant_lists)], narrowed := true }
def QuantEndsUptoSaid : Prop := quantEndsUptoRow.holds Tryd.pinned (OpenSpec.upto quantEndsSpec)

/-- 'cyanotypelaw09.QuantTells', WHERE WHAT IT READS IS OF BULK AT MOST 1048576: true; the input reads as it did. -/
def quantTellsUptoRow : OpenClaim := { program := "ythaekjdnaaikfaadoor", sum := "c2830c5a9b2bc9c17b2825c7a25669c0e7ac4ac51c322a75b7879d8b945b9dd4", func := "cyanotype/cyanotypelaw09.QuantTells", spec := "quantTells", unfollowed := true, recurses := true, named := ["cyanotype/quant.lists", "cyanotype/quant.order"], apart := false, laid := [("cyanotype/quant.order", laid_cyanotype_quant_order), ("cyanotype/quant.lists", laid_cyanotype_quant_lists)], narrowed := true }
def QuantTellsUptoSaid : Prop := quantTellsUptoRow.holds Tryd.pinned (OpenSpec.upto quantTellsSpec)

end Rows
end Go.Proofs.YthaekjdnaaikfaaDoor
