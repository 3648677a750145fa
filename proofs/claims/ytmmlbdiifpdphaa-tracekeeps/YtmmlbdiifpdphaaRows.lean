/-
  No cell of these rows narrows 'for every input' (looked for: loops, veiled, ifaces, maps, wideKeys, modest, calm, conditions, laid).
  DERIVED. THE GIVEN ROWS OF THIS SEAT. 5 by the template 'for every input the law returns true; each argument reads behind the call as it read before'; 0 by the template 'total and deterministic' (their statements: YtmmlbdiifpdphaaTotals.lean).
  GIVEN WITH THE SEED: the statements are not yours to turn. If you find one false, say at which input.
  Laid BY PROGRAM, IN A SANDBOX (cutbox-rows.mjs): the forced cells as the released guide's own fill.sh prints them over the translation 1d0333ce4d2254f1… (all of the seat's roots in one cut). By AI agents, Wed Nov 11 2026. No macro, syntax, notation, axiom, sorry.
-/
import Derived.Test.YtmmlbdiifpdphaaChecked
import GoSem.Claim
import GoSem.ClaimJoined
import GoSem.ClaimMapViews
import Derived.JoinedTies
import Derived.KernelRfl
namespace Go.Proofs.Ytmmlbdiifpdphaa
/- THE CELL 'sum', in the pinned program and in every row, IS THE sha256 OF THE DUMP (.gsa) THAT YtmmlbdiifpdphaaProg.lean LOADS. Nothing in Lean hashes anything: it is a label: what it is worth is what the hold of that sum in a sandbox is worth. -/
noncomputable def Try.pinned : Pinned := { name := "ytmmlbdiifpdphaa", sum := "1d0333ce4d2254f1bad0a97d0bd787b8ff62caf209e05eeb6767f8df29e96f78", checked := Try.checked }
namespace Rows
def none {H : Type} : Left H := { results := [], args := [] }

/-- 'cyanotypelaw02.TraceKeeps': WHATEVER THE INPUT: true; the input reads as it did. -/
def traceKeepsSpec : ChangeSpec := { name := "traceKeeps", fn := fun _ => fun
  | [d1, d2, d3] => { results := [.lit (.bool true)], args := [d1, d2, d3] }
  | _ => none }
def traceKeepsRow : OpenClaim := { program := "ytmmlbdiifpdphaa", sum := "1d0333ce4d2254f1bad0a97d0bd787b8ff62caf209e05eeb6767f8df29e96f78", func := "cyanotype/cyanotypelaw02.TraceKeeps", spec := "traceKeeps", unfollowed := true, recurses := true, apart := false }
def TraceKeepsSaid : Prop := traceKeepsRow.holds Try.pinned (OpenSpec.ofChange traceKeepsSpec)

/-- ITS FALSE NEIGHBOUR: 'it returns false'. Refute it at one input. -/
def traceKeepsWrong : ChangeSpec := { name := "traceKeeps", fn := fun _ => fun
  | [d1, d2, d3] => { results := [.lit (.bool false)], args := [d1, d2, d3] }
  | _ => none }
def TraceKeepsWrongFalsely : Prop := traceKeepsRow.holds Try.pinned (OpenSpec.ofChange traceKeepsWrong)

/-- 'cyanotypelaw02.TraceLast': WHATEVER THE INPUT: true; the input reads as it did. -/
def traceLastSpec : ChangeSpec := { name := "traceLast", fn := fun _ => fun
  | [d1, d2] => { results := [.lit (.bool true)], args := [d1, d2] }
  | _ => none }
def traceLastRow : OpenClaim := { program := "ytmmlbdiifpdphaa", sum := "1d0333ce4d2254f1bad0a97d0bd787b8ff62caf209e05eeb6767f8df29e96f78", func := "cyanotype/cyanotypelaw02.TraceLast", spec := "traceLast", unfollowed := true, recurses := true, apart := false }
def TraceLastSaid : Prop := traceLastRow.holds Try.pinned (OpenSpec.ofChange traceLastSpec)

/-- ITS FALSE NEIGHBOUR: 'it returns false'. Refute it at one input. -/
def traceLastWrong : ChangeSpec := { name := "traceLast", fn := fun _ => fun
  | [d1, d2] => { results := [.lit (.bool false)], args := [d1, d2] }
  | _ => none }
def TraceLastWrongFalsely : Prop := traceLastRow.holds Try.pinned (OpenSpec.ofChange traceLastWrong)

/-- 'cyanotypelaw02.TraceNil': WHATEVER THE INPUT: true; the input reads as it did. -/
def traceNilSpec : ChangeSpec := { name := "traceNil", fn := fun _ => fun
  | [d] => { results := [.lit (.bool true)], args := [d] }
  | _ => none }
def traceNilRow : OpenClaim := { program := "ytmmlbdiifpdphaa", sum := "1d0333ce4d2254f1bad0a97d0bd787b8ff62caf209e05eeb6767f8df29e96f78", func := "cyanotype/cyanotypelaw02.TraceNil", spec := "traceNil", unfollowed := true, recurses := true, apart := false }
def TraceNilSaid : Prop := traceNilRow.holds Try.pinned (OpenSpec.ofChange traceNilSpec)

/-- ITS FALSE NEIGHBOUR: 'it returns false'. Refute it at one input. -/
def traceNilWrong : ChangeSpec := { name := "traceNil", fn := fun _ => fun
  | [d] => { results := [.lit (.bool false)], args := [d] }
  | _ => none }
def TraceNilWrongFalsely : Prop := traceNilRow.holds Try.pinned (OpenSpec.ofChange traceNilWrong)

/-- 'cyanotypelaw02.TraceCounts': WHATEVER THE INPUT: true; the input reads as it did. -/
def traceCountsSpec : ChangeSpec := { name := "traceCounts", fn := fun _ => fun
  | [d1, d2] => { results := [.lit (.bool true)], args := [d1, d2] }
  | _ => none }
def traceCountsRow : OpenClaim := { program := "ytmmlbdiifpdphaa", sum := "1d0333ce4d2254f1bad0a97d0bd787b8ff62caf209e05eeb6767f8df29e96f78", func := "cyanotype/cyanotypelaw02.TraceCounts", spec := "traceCounts", unfollowed := true, recurses := true, apart := false }
def TraceCountsSaid : Prop := traceCountsRow.holds Try.pinned (OpenSpec.ofChange traceCountsSpec)

/-- ITS FALSE NEIGHBOUR: 'it returns false'. Refute it at one input. -/
def traceCountsWrong : ChangeSpec := { name := "traceCounts", fn := fun _ => fun
  | [d1, d2] => { results := [.lit (.bool false)], args := [d1, d2] }
  | _ => none }
def TraceCountsWrongFalsely : Prop := traceCountsRow.holds Try.pinned (OpenSpec.ofChange traceCountsWrong)

/-- 'cyanotypelaw02.TraceOrder': WHATEVER THE INPUT: true; the input reads as it did. -/
def traceOrderSpec : ChangeSpec := { name := "traceOrder", fn := fun _ => fun
  | [d1, d2, d3] => { results := [.lit (.bool true)], args := [d1, d2, d3] }
  | _ => none }
def traceOrderRow : OpenClaim := { program := "ytmmlbdiifpdphaa", sum := "1d0333ce4d2254f1bad0a97d0bd787b8ff62caf209e05eeb6767f8df29e96f78", func := "cyanotype/cyanotypelaw02.TraceOrder", spec := "traceOrder", unfollowed := true, recurses := true, apart := false }
def TraceOrderSaid : Prop := traceOrderRow.holds Try.pinned (OpenSpec.ofChange traceOrderSpec)

/-- ITS FALSE NEIGHBOUR: 'it returns false'. Refute it at one input. -/
def traceOrderWrong : ChangeSpec := { name := "traceOrder", fn := fun _ => fun
  | [d1, d2, d3] => { results := [.lit (.bool false)], args := [d1, d2, d3] }
  | _ => none }
def TraceOrderWrongFalsely : Prop := traceOrderRow.holds Try.pinned (OpenSpec.ofChange traceOrderWrong)

/- THE SECOND FORM. 'bulk': how many values and letters a reading holds, each counted each time it is reached (what is shared counts as often as it is met; a slice's spare places count too). A statement '..UptoSaid' is the law's where the arguments, and the package variables that the reading takes, are together of bulk at most 1048576: NARROWER than '..Said'. Prove '..Said' where nothing that the law and all that it calls make is longer than what came in: it says more and counts as full. Else prove '..UptoSaid'. A law counts once. -/
mutual
def uptoBulk {H : Type} : DataW H → Nat
  | .lit (.string bytes) => bytes.length + 1
  | .lit _ => 1
  | .nil => 1
  | .ptr d => uptoBulk d + 1
  | .slice elems spare => uptoBulkAll elems + uptoBulkAll spare + 1
  | .agg parts => uptoBulkAll parts + 1
  | .iface _ d => uptoBulk d + 1
  | .map entries => uptoBulkEntries entries + 1
  | .held _ => 1
def uptoBulkAll {H : Type} : List (DataW H) → Nat
  | [] => 0
  | d :: r => uptoBulk d + uptoBulkAll r
def uptoBulkEntries {H : Type} : List (Lit × DataW H) → Nat
  | [] => 0
  | x :: r => uptoBulkEntry x + uptoBulkEntries r
def uptoBulkEntry {H : Type} : Lit × DataW H → Nat
  | (.string bytes, d) => bytes.length + uptoBulk d + 1
  | (_, d) => uptoBulk d + 1
 end
def uptoSmall : (H : Type) → List (DataW H) → Bool := fun _ ds => decide (uptoBulkAll ds ≤ 1048576)
def OpenSpec.upto (s : _root_.Go.ChangeSpec) : _root_.Go.OpenSpec := { _root_.Go.OpenSpec.ofChange s with cond := some uptoSmall }

/-- 'cyanotypelaw02.TraceKeeps', WHERE WHAT IT READS IS OF BULK AT MOST 1048576: true; the input reads as it did. -/
def traceKeepsUptoRow : OpenClaim := { program := "ytmmlbdiifpdphaa", sum := "1d0333ce4d2254f1bad0a97d0bd787b8ff62caf209e05eeb6767f8df29e96f78", func := "cyanotype/cyanotypelaw02.TraceKeeps", spec := "traceKeeps", unfollowed := true, recurses := true, apart := false, narrowed := true }
def TraceKeepsUptoSaid : Prop := traceKeepsUptoRow.holds Try.pinned (OpenSpec.upto traceKeepsSpec)

/-- 'cyanotypelaw02.TraceLast', WHERE WHAT IT READS IS OF BULK AT MOST 1048576: true; the input reads as it did. -/
def traceLastUptoRow : OpenClaim := { program := "ytmmlbdiifpdphaa", sum := "1d0333ce4d2254f1bad0a97d0bd787b8ff62caf209e05eeb6767f8df29e96f78", func := "cyanotype/cyanotypelaw02.TraceLast", spec := "traceLast", unfollowed := true, recurses := true, apart := false, narrowed := true }
def TraceLastUptoSaid : Prop := traceLastUptoRow.holds Try.pinned (OpenSpec.upto traceLastSpec)

/-- 'cyanotypelaw02.TraceNil', WHERE WHAT IT READS IS OF BULK AT MOST 1048576: true; the input reads as it did. -/
def traceNilUptoRow : OpenClaim := { program := "ytmmlbdiifpdphaa", sum := "1d0333ce4d2254f1bad0a97d0bd787b8ff62caf209e05eeb6767f8df29e96f78", func := "cyanotype/cyanotypelaw02.TraceNil", spec := "traceNil", unfollowed := true, recurses := true, apart := false, narrowed := true }
def TraceNilUptoSaid : Prop := traceNilUptoRow.holds Try.pinned (OpenSpec.upto traceNilSpec)

/-- 'cyanotypelaw02.TraceCounts', WHERE WHAT IT READS IS OF BULK AT MOST 1048576: true; the input reads as it did. -/
def traceCountsUptoRow : OpenClaim := { program := "ytmmlbdiifpdphaa", sum := "1d0333ce4d2254f1bad0a97d0bd787b8ff62caf209e05eeb6767f8df29e96f78", func := "cyanotype/cyanotypelaw02.TraceCounts", spec := "traceCounts", unfollowed := true, recurses := true, apart := false, narrowed := true }
def TraceCountsUptoSaid : Prop := traceCountsUptoRow.holds Try.pinned (OpenSpec.upto traceCountsSpec)

/-- 'cyanotypelaw02.TraceOrder', WHERE WHAT IT READS IS OF BULK AT MOST 1048576: true; the input reads as it did. -/
def traceOrderUptoRow : OpenClaim := { program := "ytmmlbdiifpdphaa", sum := "1d0333ce4d2254f1bad0a97d0bd787b8ff62caf209e05eeb6767f8df29e96f78", func := "cyanotype/cyanotypelaw02.TraceOrder", spec := "traceOrder", unfollowed := true, recurses := true, apart := false, narrowed := true }
def TraceOrderUptoSaid : Prop := traceOrderUptoRow.holds Try.pinned (OpenSpec.upto traceOrderSpec)

end Rows
end Go.Proofs.Ytmmlbdiifpdphaa
