/-
  NARROWER THAN 'FOR EVERY INPUT', by the rows' own cells (each row's printed sentence says how): DctTurns: laid · DctSecrets: laid · DctFactors: laid · DctNear: laid · DctTurned: laid · DctSum: laid · DctEmpty: laid.
  DERIVED. THE GIVEN ROWS OF THIS SEAT. 7 by the template 'for every input the law returns true; each argument reads behind the call as it read before'; 0 by the template 'total and deterministic' (their statements: YtlidijlmbelhhaaDoorTotals.lean).
  GIVEN WITH THE SEED: the statements are not yours to turn. If you find one false, say at which input.
  Laid BY PROGRAM, IN A SANDBOX (cutbox-rows.mjs): the forced cells as the released guide's own fill.sh prints them over the translation 6491d7fca3e2cfcd… (all of the seat's roots in one cut). By AI agents, Wed Nov 11 2026. No macro, syntax, notation, axiom, sorry.
-/
import Derived.Test.YtlidijlmbelhhaaDoorChecked
import GoSem.Claim
import GoSem.ClaimJoined
import GoSem.ClaimMapViews
import Derived.JoinedTies
import Derived.KernelRfl
namespace Go.Proofs.YtlidijlmbelhhaaDoor
/- THE CELL 'sum', in the pinned program and in every row, IS THE sha256 OF THE DUMP (.gsa) THAT YtlidijlmbelhhaaDoorProg.lean LOADS. Nothing in Lean hashes anything: it is a label: what it is worth is what the hold of that sum in a sandbox is worth. -/
noncomputable def Tryd.pinned : Pinned := { name := "ytlidijlmbelhhaadoor", sum := "6491d7fca3e2cfcd302e730a5a7a6ad008366fddeb2dfc39a70b0f99f87895ac", checked := Tryd.checked }
namespace Rows
def none {H : Type} : Left H := { results := [], args := [] }

/- WHAT THE LISTED PACKAGE-LEVEL VARIABLES READ AS WHEN THE CALL BEGINS. Each datum BY PROGRAM (the guide's laid-datum.mjs) off the statement by which the dump's own 'gosem.cut.vars' lays the variable. In a bare row this is a premise. The card (YtlidijlmbelhhaaDoorCards.lean) ties it to the program's text. -/
def laid_cyanotype_dct_factors {H : Type} : DataW H := .agg [.agg [.lit (.int .i64 370728), .lit (.int .i64 370728), .lit (.int .i64 370728), .lit (.int .i64 370728), .lit (.int .i64 370728), .lit (.int .i64 370728), .lit (.int .i64 370728), .lit (.int .i64 370728)], .agg [.lit (.int .i64 514214), .lit (.int .i64 435930), .lit (.int .i64 291279), .lit (.int .i64 102284), .lit (.int .i64 (-102284)), .lit (.int .i64 (-291279)), .lit (.int .i64 (-435930)), .lit (.int .i64 (-514214))], .agg [.lit (.int .i64 484379), .lit (.int .i64 200636), .lit (.int .i64 (-200636)), .lit (.int .i64 (-484379)), .lit (.int .i64 (-484379)), .lit (.int .i64 (-200636)), .lit (.int .i64 200636), .lit (.int .i64 484379)], .agg [.lit (.int .i64 435930), .lit (.int .i64 (-102284)), .lit (.int .i64 (-514214)), .lit (.int .i64 (-291279)), .lit (.int .i64 291279), .lit (.int .i64 514214), .lit (.int .i64 102284), .lit (.int .i64 (-435930))], .agg [.lit (.int .i64 370728), .lit (.int .i64 (-370728)), .lit (.int .i64 (-370728)), .lit (.int .i64 370728), .lit (.int .i64 370728), .lit (.int .i64 (-370728)), .lit (.int .i64 (-370728)), .lit (.int .i64 370728)], .agg [.lit (.int .i64 291279), .lit (.int .i64 (-514214)), .lit (.int .i64 102284), .lit (.int .i64 435930), .lit (.int .i64 (-435930)), .lit (.int .i64 (-102284)), .lit (.int .i64 514214), .lit (.int .i64 (-291279))], .agg [.lit (.int .i64 200636), .lit (.int .i64 (-484379)), .lit (.int .i64 484379), .lit (.int .i64 (-200636)), .lit (.int .i64 (-200636)), .lit (.int .i64 484379), .lit (.int .i64 (-484379)), .lit (.int .i64 200636)], .agg [.lit (.int .i64 102284), .lit (.int .i64 (-291279)), .lit (.int .i64 435930), .lit (.int .i64 (-514214)), .lit (.int .i64 514214), .lit (.int .i64 (-435930)), .lit (.int .i64 291279), .lit (.int .i64 (-102284))]]

/-- 'cyanotypelaw08.DctTurns': WHATEVER THE INPUT: true; the input reads as it did. -/
def dctTurnsSpec : ChangeSpec := { name := "dctTurns", fn := fun _ => fun
  | [d1, d2, d3] => { results := [.lit (.bool true)], args := [d1, d2, d3] }
  | _ => none }
def dctTurnsRow : OpenClaim := { program := "ytlidijlmbelhhaadoor", sum := "6491d7fca3e2cfcd302e730a5a7a6ad008366fddeb2dfc39a70b0f99f87895ac", func := "cyanotype/cyanotypelaw08.DctTurns", spec := "dctTurns", unfollowed := true, recurses := true, named := ["cyanotype/dct.factors"], apart := false, laid := [("cyanotype/dct.factors", laid_cyanotype_dct_factors)] }
def DctTurnsSaid : Prop := dctTurnsRow.holds Tryd.pinned (OpenSpec.ofChange dctTurnsSpec)

/-- ITS FALSE NEIGHBOUR: 'it returns false'. Refute it at one input. -/
def dctTurnsWrong : ChangeSpec := { name := "dctTurns", fn := fun _ => fun
  | [d1, d2, d3] => { results := [.lit (.bool false)], args := [d1, d2, d3] }
  | _ => none }
def DctTurnsWrongFalsely : Prop := dctTurnsRow.holds Tryd.pinned (OpenSpec.ofChange dctTurnsWrong)

/-- 'cyanotypelaw08.DctSecrets': WHATEVER THE INPUT: true; the input reads as it did. -/
def dctSecretsSpec : ChangeSpec := { name := "dctSecrets", fn := fun _ => fun
  | [d1, d2, d3] => { results := [.lit (.bool true)], args := [d1, d2, d3] }
  | _ => none }
def dctSecretsRow : OpenClaim := { program := "ytlidijlmbelhhaadoor", sum := "6491d7fca3e2cfcd302e730a5a7a6ad008366fddeb2dfc39a70b0f99f87895ac", func := "cyanotype/cyanotypelaw08.DctSecrets", spec := "dctSecrets", unfollowed := true, recurses := true, named := ["cyanotype/dct.factors"], apart := false, laid := [("cyanotype/dct.factors", laid_cyanotype_dct_factors)] }
def DctSecretsSaid : Prop := dctSecretsRow.holds Tryd.pinned (OpenSpec.ofChange dctSecretsSpec)

/-- ITS FALSE NEIGHBOUR: 'it returns false'. Refute it at one input. -/
def dctSecretsWrong : ChangeSpec := { name := "dctSecrets", fn := fun _ => fun
  | [d1, d2, d3] => { results := [.lit (.bool false)], args := [d1, d2, d3] }
  | _ => none }
def DctSecretsWrongFalsely : Prop := dctSecretsRow.holds Tryd.pinned (OpenSpec.ofChange dctSecretsWrong)

/-- 'cyanotypelaw08.DctFactors': WHATEVER THE INPUT: true; the input reads as it did. -/
def dctFactorsSpec : ChangeSpec := { name := "dctFactors", fn := fun _ => fun
  | [d1, d2, d3] => { results := [.lit (.bool true)], args := [d1, d2, d3] }
  | _ => none }
def dctFactorsRow : OpenClaim := { program := "ytlidijlmbelhhaadoor", sum := "6491d7fca3e2cfcd302e730a5a7a6ad008366fddeb2dfc39a70b0f99f87895ac", func := "cyanotype/cyanotypelaw08.DctFactors", spec := "dctFactors", unfollowed := true, recurses := true, named := ["cyanotype/dct.factors"], apart := false, laid := [("cyanotype/dct.factors", laid_cyanotype_dct_factors)] }
def DctFactorsSaid : Prop := dctFactorsRow.holds Tryd.pinned (OpenSpec.ofChange dctFactorsSpec)

/-- ITS FALSE NEIGHBOUR: 'it returns false'. Refute it at one input. -/
def dctFactorsWrong : ChangeSpec := { name := "dctFactors", fn := fun _ => fun
  | [d1, d2, d3] => { results := [.lit (.bool false)], args := [d1, d2, d3] }
  | _ => none }
def DctFactorsWrongFalsely : Prop := dctFactorsRow.holds Tryd.pinned (OpenSpec.ofChange dctFactorsWrong)

/-- 'cyanotypelaw08.DctNear': WHATEVER THE INPUT: true; the input reads as it did. -/
def dctNearSpec : ChangeSpec := { name := "dctNear", fn := fun _ => fun
  | [d1, d2] => { results := [.lit (.bool true)], args := [d1, d2] }
  | _ => none }
def dctNearRow : OpenClaim := { program := "ytlidijlmbelhhaadoor", sum := "6491d7fca3e2cfcd302e730a5a7a6ad008366fddeb2dfc39a70b0f99f87895ac", func := "cyanotype/cyanotypelaw08.DctNear", spec := "dctNear", unfollowed := true, recurses := true, named := ["cyanotype/dct.factors"], apart := false, laid := [("cyanotype/dct.factors", laid_cyanotype_dct_factors)] }
def DctNearSaid : Prop := dctNearRow.holds Tryd.pinned (OpenSpec.ofChange dctNearSpec)

/-- ITS FALSE NEIGHBOUR: 'it returns false'. Refute it at one input. -/
def dctNearWrong : ChangeSpec := { name := "dctNear", fn := fun _ => fun
  | [d1, d2] => { results := [.lit (.bool false)], args := [d1, d2] }
  | _ => none }
def DctNearWrongFalsely : Prop := dctNearRow.holds Tryd.pinned (OpenSpec.ofChange dctNearWrong)

/-- 'cyanotypelaw08.DctTurned': WHATEVER THE INPUT: true; the input reads as it did. -/
def dctTurnedSpec : ChangeSpec := { name := "dctTurned", fn := fun _ => fun
  | [d1, d2] => { results := [.lit (.bool true)], args := [d1, d2] }
  | _ => none }
def dctTurnedRow : OpenClaim := { program := "ytlidijlmbelhhaadoor", sum := "6491d7fca3e2cfcd302e730a5a7a6ad008366fddeb2dfc39a70b0f99f87895ac", func := "cyanotype/cyanotypelaw08.DctTurned", spec := "dctTurned", unfollowed := true, recurses := true, named := ["cyanotype/dct.factors"], apart := false, laid := [("cyanotype/dct.factors", laid_cyanotype_dct_factors)] }
def DctTurnedSaid : Prop := dctTurnedRow.holds Tryd.pinned (OpenSpec.ofChange dctTurnedSpec)

/-- ITS FALSE NEIGHBOUR: 'it returns false'. Refute it at one input. -/
def dctTurnedWrong : ChangeSpec := { name := "dctTurned", fn := fun _ => fun
  | [d1, d2] => { results := [.lit (.bool false)], args := [d1, d2] }
  | _ => none }
def DctTurnedWrongFalsely : Prop := dctTurnedRow.holds Tryd.pinned (OpenSpec.ofChange dctTurnedWrong)

/-- 'cyanotypelaw08.DctSum': WHATEVER THE INPUT: true; the input reads as it did. -/
def dctSumSpec : ChangeSpec := { name := "dctSum", fn := fun _ => fun
  | [d1, d2, d3] => { results := [.lit (.bool true)], args := [d1, d2, d3] }
  | _ => none }
def dctSumRow : OpenClaim := { program := "ytlidijlmbelhhaadoor", sum := "6491d7fca3e2cfcd302e730a5a7a6ad008366fddeb2dfc39a70b0f99f87895ac", func := "cyanotype/cyanotypelaw08.DctSum", spec := "dctSum", unfollowed := true, recurses := true, named := ["cyanotype/dct.factors"], apart := false, laid := [("cyanotype/dct.factors", laid_cyanotype_dct_factors)] }
def DctSumSaid : Prop := dctSumRow.holds Tryd.pinned (OpenSpec.ofChange dctSumSpec)

/-- ITS FALSE NEIGHBOUR: 'it returns false'. Refute it at one input. -/
def dctSumWrong : ChangeSpec := { name := "dctSum", fn := fun _ => fun
  | [d1, d2, d3] => { results := [.lit (.bool false)], args := [d1, d2, d3] }
  | _ => none }
def DctSumWrongFalsely : Prop := dctSumRow.holds Tryd.pinned (OpenSpec.ofChange dctSumWrong)

/-- 'cyanotypelaw08.DctEmpty': WHATEVER THE INPUT: true; the input reads as it did. -/
def dctEmptySpec : ChangeSpec := { name := "dctEmpty", fn := fun _ => fun
  | [d1, d2] => { results := [.lit (.bool true)], args := [d1, d2] }
  | _ => none }
def dctEmptyRow : OpenClaim := { program := "ytlidijlmbelhhaadoor", sum := "6491d7fca3e2cfcd302e730a5a7a6ad008366fddeb2dfc39a70b0f99f87895ac", func := "cyanotype/cyanotypelaw08.DctEmpty", spec := "dctEmpty", unfollowed := true, recurses := true, named := ["cyanotype/dct.factors"], apart := false, laid := [("cyanotype/dct.factors", laid_cyanotype_dct_factors)] }
def DctEmptySaid : Prop := dctEmptyRow.holds Tryd.pinned (OpenSpec.ofChange dctEmptySpec)

/-- ITS FALSE NEIGHBOUR: 'it returns false'. Refute it at one input. -/
def dctEmptyWrong : ChangeSpec := { name := "dctEmpty", fn := fun _ => fun
  | [d1, d2] => { results := [.lit (.bool false)], args := [d1, d2] }
  | _ => none }
def DctEmptyWrongFalsely : Prop := dctEmptyRow.holds Tryd.pinned (OpenSpec.ofChange dctEmptyWrong)

/- THE SECOND FORM. 'bulk': how many values and letters a reading holds, each counted each time it is reached (what is shared counts as often as it is met; a slice's spare places count too). A statement '..UptoSaid' is the law's where the arguments, and the package variables that the reading takes, are together of bulk at most 1048576: NARROWER than '..Said'. Prove '..Said' where nothing that the law and all that it calls make is longer than what came in: it says more and counts as full. Else prove '..UptoSaid'. A law counts once. -/
mutual
def uptoBulk {H : Type} : DataW H → Nat
  | .lit (.string bytes) => bytes.length + 1
  | .lit _ => 1
  | .nil => 1
  | .ptr d => uptoBulk d + 1
  | .slice elems spare => uptoBulkAll elems + uptoBulkAll spare + 1
  | .agg parts => uptoBulkAll parts + 1
  | .iface _ d => uptoBulk d + 1
  | .map entries => uptoBulkEntries entries + 1
  | .held _ => 1
def uptoBulkAll {H : Type} : List (DataW H) → Nat
  | [] => 0
  | d :: r => uptoBulk d + uptoBulkAll r
def uptoBulkEntries {H : Type} : List (Lit × DataW H) → Nat
  | [] => 0
  | x :: r => uptoBulkEntry x + uptoBulkEntries r
def uptoBulkEntry {H : Type} : Lit × DataW H → Nat
  | (.string bytes, d) => bytes.length + uptoBulk d + 1
  | (_, d) => uptoBulk d + 1
 end
def uptoSmall : (H : Type) → List (DataW H) → Bool := fun _ ds => decide (uptoBulkAll ds ≤ 1048576)
def OpenSpec.upto (s : _root_.Go.ChangeSpec) : _root_.Go.OpenSpec := { _root_.Go.OpenSpec.ofChange s with cond := some uptoSmall }

/-- 'cyanotypelaw08.DctTurns', WHERE WHAT IT READS IS OF BULK AT MOST 1048576: true; the input reads as it did. -/
def dctTurnsUptoRow : OpenClaim := { program := "ytlidijlmbelhhaadoor", sum := "6491d7fca3e2cfcd302e730a5a7a6ad008366fddeb2dfc39a70b0f99f87895ac", func := "cyanotype/cyanotypelaw08.DctTurns", spec := "dctTurns", unfollowed := true, recurses := true, named := ["cyanotype/dct.factors"], apart := false, laid := [("cyanotype/dct.factors", laid_cyanotype_dct_factors)], narrowed := true }
def DctTurnsUptoSaid : Prop := dctTurnsUptoRow.holds Tryd.pinned (OpenSpec.upto dctTurnsSpec)

/-- 'cyanotypelaw08.DctSecrets', WHERE WHAT IT READS IS OF BULK AT MOST 1048576: true; the input reads as it did. -/
def dctSecretsUptoRow : OpenClaim := { program := "ytlidijlmbelhhaadoor", sum := "6491d7fca3e2cfcd302e730a5a7a6ad008366fddeb2dfc39a70b0f99f87895ac", func := "cyanotype/cyanotypelaw08.DctSecrets", spec := "dctSecrets", unfollowed := true, recurses := true, named := ["cyanotype/dct.factors"], apart := false, laid := [("cyanotype/dct.factors", laid_cyanotype_dct_factors)], narrowed := true }
def DctSecretsUptoSaid : Prop := dctSecretsUptoRow.holds Tryd.pinned (OpenSpec.upto dctSecretsSpec)

/-- 'cyanotypelaw08.DctFactors', WHERE WHAT IT READS IS OF BULK AT MOST 1048576: true; the input reads as it did. -/
def dctFactorsUptoRow : OpenClaim := { program := "ytlidijlmbelhhaadoor", sum := "6491d7fca3e2cfcd302e730a5a7a6ad008366fddeb2dfc39a70b0f99f87895ac", func := "cyanotype/cyanotypelaw08.DctFactors", spec := "dctFactors", unfollowed := true, recurses := true, named := ["cyanotype/dct.factors"], apart := false, laid := [("cyanotype/dct.factors", laid_cyanotype_dct_factors)], narrowed := true }
def DctFactorsUptoSaid : Prop := dctFactorsUptoRow.holds Tryd.pinned (OpenSpec.upto dctFactorsSpec)

/-- 'cyanotypelaw08.DctNear', WHERE WHAT IT READS IS OF BULK AT MOST 1048576: true; the input reads as it did. -/
def dctNearUptoRow : OpenClaim := { program := "ytlidijlmbelhhaadoor", sum := "6491d7fca3e2cfcd302e730a5a7a6ad008366fddeb2dfc39a70b0f99f87895ac", func := "cyanotype/cyanotypelaw08.DctNear", spec := "dctNear", unfollowed := true, recurses := true, named := ["cyanotype/dct.factors"], apart := false, laid := [("cyanotype/dct.factors", laid_cyanotype_dct_factors)], narrowed := true }
def DctNearUptoSaid : Prop := dctNearUptoRow.holds Tryd.pinned (OpenSpec.upto dctNearSpec)

/-- 'cyanotypelaw08.DctTurned', WHERE WHAT IT READS IS OF BULK AT MOST 1048576: true; the input reads as it did. -/
def dctTurnedUptoRow : OpenClaim := { program := "ytlidijlmbelhhaadoor", sum := "6491d7fca3e2cfcd302e730a5a7a6ad008366fddeb2dfc39a70b0f99f87895ac", func := "cyanotype/cyanotypelaw08.DctTurned", spec := "dctTurned", unfollowed := true, recurses := true, named := ["cyanotype/dct.factors"], apart := false, laid := [("cyanotype/dct.factors", laid_cyanotype_dct_factors)], narrowed := true }
def DctTurnedUptoSaid : Prop := dctTurnedUptoRow.holds Tryd.pinned (OpenSpec.upto dctTurnedSpec)

/-- 'cyanotypelaw08.DctSum', WHERE WHAT IT READS IS OF BULK AT MOST 1048576: true; the input reads as it did. -/
def dctSumUptoRow : OpenClaim := { program := "ytlidijlmbelhhaadoor", sum := "6491d7fca3e2cfcd302e730a5a7a6ad008366fddeb2dfc39a70b0f99f87895ac", func := "cyanotype/cyanotypelaw08.DctSum", spec := "dctSum", unfollowed := true, recurses := true, named := ["cyanotype/dct.factors"], apart := false, laid := [("cyanotype/dct.factors", laid_cyanotype_dct_factors)], narrowed := true }
def DctSumUptoSaid : Prop := dctSumUptoRow.holds Tryd.pinned (OpenSpec.upto dctSumSpec)

/-- 'cyanotypelaw08.DctEmpty', WHERE WHAT IT READS IS OF BULK AT MOST 1048576: true; the input reads as it did. -/
def dctEmptyUptoRow : OpenClaim := { program := "ytlidijlmbelhhaadoor", sum := "6491d7fca3e2cfcd302e730a5a7a6ad008366fddeb2dfc39a70b0f99f87895ac", func := "cyanotype/cyanotypelaw08.DctEmpty", spec := "dctEmpty", unfollowed := true, recurses := true, named := ["cyanotype/dct.factors"], apart := false, laid := [("cyanotype/dct.factors", laid_cyanotype_dct_factors)], narrowed := true }
def DctEmptyUptoSaid : Prop := dctEmptyUptoRow.holds Tryd.pinned (OpenSpec.upto dctEmptySpec)

end Rows
end Go.Proofs.YtlidijlmbelhhaaDoor
