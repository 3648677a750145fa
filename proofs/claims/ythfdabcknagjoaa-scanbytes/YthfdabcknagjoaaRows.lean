/-
  No cell of these rows narrows 'for every input' (looked for: loops, veiled, ifaces, maps, wideKeys, modest, calm, conditions, laid).
  DERIVED. THE GIVEN ROWS OF THIS SEAT. 8 by the template 'for every input the law returns true; each argument reads behind the call as it read before'; 0 by the template 'total and deterministic' (their statements: YthfdabcknagjoaaTotals.lean).
  GIVEN WITH THE SEED: the statements are not yours to turn. If you find one false, say at which input.
  Laid BY PROGRAM, IN A SANDBOX (cutbox-rows.mjs): the forced cells as the released guide's own fill.sh prints them over the translation 4488d155c5d4422a… (all of the seat's roots in one cut). By AI agents, Wed Nov 11 2026. No macro, syntax, notation, axiom, sorry.
-/
import Derived.Test.YthfdabcknagjoaaChecked
import GoSem.Claim
import GoSem.ClaimJoined
import GoSem.ClaimMapViews
import Derived.JoinedTies
import Derived.KernelRfl
namespace Go.Proofs.Ythfdabcknagjoaa
/- THE CELL 'sum', in the pinned program and in every row, IS THE sha256 OF THE DUMP (.gsa) THAT YthfdabcknagjoaaProg.lean LOADS. Nothing in Lean hashes anything: it is a label: what it is worth is what the hold of that sum in a sandbox is worth. -/
noncomputable def Try.pinned : Pinned := { name := "ythfdabcknagjoaa", sum := "4488d155c5d4422a8da120f9ba7e075cdbdcc34bee1a27d295873956ca36229e", checked := Try.checked }
namespace Rows
def none {H : Type} : Left H := { results := [], args := [] }

/-- 'cyanotypelaw05.ScanPlaces': WHATEVER THE INPUT: true; the input reads as it did. -/
def scanPlacesSpec : ChangeSpec := { name := "scanPlaces", fn := fun _ => fun
  | [d1, d2, d3, d4, d5, d6] => { results := [.lit (.bool true)], args := [d1, d2, d3, d4, d5, d6] }
  | _ => none }
def scanPlacesRow : OpenClaim := { program := "ythfdabcknagjoaa", sum := "4488d155c5d4422a8da120f9ba7e075cdbdcc34bee1a27d295873956ca36229e", func := "cyanotype/cyanotypelaw05.ScanPlaces", spec := "scanPlaces", unfollowed := true, recurses := true, apart := false }
def ScanPlacesSaid : Prop := scanPlacesRow.holds Try.pinned (OpenSpec.ofChange scanPlacesSpec)

/-- ITS FALSE NEIGHBOUR: 'it returns false'. Refute it at one input. -/
def scanPlacesWrong : ChangeSpec := { name := "scanPlaces", fn := fun _ => fun
  | [d1, d2, d3, d4, d5, d6] => { results := [.lit (.bool false)], args := [d1, d2, d3, d4, d5, d6] }
  | _ => none }
def ScanPlacesWrongFalsely : Prop := scanPlacesRow.holds Try.pinned (OpenSpec.ofChange scanPlacesWrong)

/-- 'cyanotypelaw05.ScanBytes': WHATEVER THE INPUT: true; the input reads as it did. -/
def scanBytesSpec : ChangeSpec := { name := "scanBytes", fn := fun _ => fun
  | [d1, d2, d3, d4, d5, d6, d7] => { results := [.lit (.bool true)], args := [d1, d2, d3, d4, d5, d6, d7] }
  | _ => none }
def scanBytesRow : OpenClaim := { program := "ythfdabcknagjoaa", sum := "4488d155c5d4422a8da120f9ba7e075cdbdcc34bee1a27d295873956ca36229e", func := "cyanotype/cyanotypelaw05.ScanBytes", spec := "scanBytes", unfollowed := true, recurses := true, apart := false }
def ScanBytesSaid : Prop := scanBytesRow.holds Try.pinned (OpenSpec.ofChange scanBytesSpec)

/-- ITS FALSE NEIGHBOUR: 'it returns false'. Refute it at one input. -/
def scanBytesWrong : ChangeSpec := { name := "scanBytes", fn := fun _ => fun
  | [d1, d2, d3, d4, d5, d6, d7] => { results := [.lit (.bool false)], args := [d1, d2, d3, d4, d5, d6, d7] }
  | _ => none }
def ScanBytesWrongFalsely : Prop := scanBytesRow.holds Try.pinned (OpenSpec.ofChange scanBytesWrong)

/-- 'cyanotypelaw05.ScanLooks': WHATEVER THE INPUT: true; the input reads as it did. -/
def scanLooksSpec : ChangeSpec := { name := "scanLooks", fn := fun _ => fun
  | [d1, d2, d3] => { results := [.lit (.bool true)], args := [d1, d2, d3] }
  | _ => none }
def scanLooksRow : OpenClaim := { program := "ythfdabcknagjoaa", sum := "4488d155c5d4422a8da120f9ba7e075cdbdcc34bee1a27d295873956ca36229e", func := "cyanotype/cyanotypelaw05.ScanLooks", spec := "scanLooks", unfollowed := true, recurses := true, apart := false }
def ScanLooksSaid : Prop := scanLooksRow.holds Try.pinned (OpenSpec.ofChange scanLooksSpec)

/-- ITS FALSE NEIGHBOUR: 'it returns false'. Refute it at one input. -/
def scanLooksWrong : ChangeSpec := { name := "scanLooks", fn := fun _ => fun
  | [d1, d2, d3] => { results := [.lit (.bool false)], args := [d1, d2, d3] }
  | _ => none }
def ScanLooksWrongFalsely : Prop := scanLooksRow.holds Try.pinned (OpenSpec.ofChange scanLooksWrong)

/-- 'cyanotypelaw05.ScanDivides': WHATEVER THE INPUT: true; the input reads as it did. -/
def scanDividesSpec : ChangeSpec := { name := "scanDivides", fn := fun _ => fun
  | [d1, d2, d3, d4] => { results := [.lit (.bool true)], args := [d1, d2, d3, d4] }
  | _ => none }
def scanDividesRow : OpenClaim := { program := "ythfdabcknagjoaa", sum := "4488d155c5d4422a8da120f9ba7e075cdbdcc34bee1a27d295873956ca36229e", func := "cyanotype/cyanotypelaw05.ScanDivides", spec := "scanDivides", unfollowed := true, recurses := true, apart := false }
def ScanDividesSaid : Prop := scanDividesRow.holds Try.pinned (OpenSpec.ofChange scanDividesSpec)

/-- ITS FALSE NEIGHBOUR: 'it returns false'. Refute it at one input. -/
def scanDividesWrong : ChangeSpec := { name := "scanDivides", fn := fun _ => fun
  | [d1, d2, d3, d4] => { results := [.lit (.bool false)], args := [d1, d2, d3, d4] }
  | _ => none }
def ScanDividesWrongFalsely : Prop := scanDividesRow.holds Try.pinned (OpenSpec.ofChange scanDividesWrong)

/-- 'cyanotypelaw05.ScanSame': WHATEVER THE INPUT: true; the input reads as it did. -/
def scanSameSpec : ChangeSpec := { name := "scanSame", fn := fun _ => fun
  | [d1, d2, d3, d4, d5, d6, d7] => { results := [.lit (.bool true)], args := [d1, d2, d3, d4, d5, d6, d7] }
  | _ => none }
def scanSameRow : OpenClaim := { program := "ythfdabcknagjoaa", sum := "4488d155c5d4422a8da120f9ba7e075cdbdcc34bee1a27d295873956ca36229e", func := "cyanotype/cyanotypelaw05.ScanSame", spec := "scanSame", unfollowed := true, recurses := true, apart := false }
def ScanSameSaid : Prop := scanSameRow.holds Try.pinned (OpenSpec.ofChange scanSameSpec)

/-- ITS FALSE NEIGHBOUR: 'it returns false'. Refute it at one input. -/
def scanSameWrong : ChangeSpec := { name := "scanSame", fn := fun _ => fun
  | [d1, d2, d3, d4, d5, d6, d7] => { results := [.lit (.bool false)], args := [d1, d2, d3, d4, d5, d6, d7] }
  | _ => none }
def ScanSameWrongFalsely : Prop := scanSameRow.holds Try.pinned (OpenSpec.ofChange scanSameWrong)

/-- 'cyanotypelaw05.ScanBack': WHATEVER THE INPUT: true; the input reads as it did. -/
def scanBackSpec : ChangeSpec := { name := "scanBack", fn := fun _ => fun
  | [d1, d2, d3] => { results := [.lit (.bool true)], args := [d1, d2, d3] }
  | _ => none }
def scanBackRow : OpenClaim := { program := "ythfdabcknagjoaa", sum := "4488d155c5d4422a8da120f9ba7e075cdbdcc34bee1a27d295873956ca36229e", func := "cyanotype/cyanotypelaw05.ScanBack", spec := "scanBack", unfollowed := true, recurses := true, apart := false }
def ScanBackSaid : Prop := scanBackRow.holds Try.pinned (OpenSpec.ofChange scanBackSpec)

/-- ITS FALSE NEIGHBOUR: 'it returns false'. Refute it at one input. -/
def scanBackWrong : ChangeSpec := { name := "scanBack", fn := fun _ => fun
  | [d1, d2, d3] => { results := [.lit (.bool false)], args := [d1, d2, d3] }
  | _ => none }
def ScanBackWrongFalsely : Prop := scanBackRow.holds Try.pinned (OpenSpec.ofChange scanBackWrong)

/-- 'cyanotypelaw05.ScanStores': WHATEVER THE INPUT: true; the input reads as it did. -/
def scanStoresSpec : ChangeSpec := { name := "scanStores", fn := fun _ => fun
  | [d1, d2, d3] => { results := [.lit (.bool true)], args := [d1, d2, d3] }
  | _ => none }
def scanStoresRow : OpenClaim := { program := "ythfdabcknagjoaa", sum := "4488d155c5d4422a8da120f9ba7e075cdbdcc34bee1a27d295873956ca36229e", func := "cyanotype/cyanotypelaw05.ScanStores", spec := "scanStores", unfollowed := true, recurses := true, apart := false }
def ScanStoresSaid : Prop := scanStoresRow.holds Try.pinned (OpenSpec.ofChange scanStoresSpec)

/-- ITS FALSE NEIGHBOUR: 'it returns false'. Refute it at one input. -/
def scanStoresWrong : ChangeSpec := { name := "scanStores", fn := fun _ => fun
  | [d1, d2, d3] => { results := [.lit (.bool false)], args := [d1, d2, d3] }
  | _ => none }
def ScanStoresWrongFalsely : Prop := scanStoresRow.holds Try.pinned (OpenSpec.ofChange scanStoresWrong)

/-- 'cyanotypelaw05.ScanWindows': WHATEVER THE INPUT: true; the input reads as it did. -/
def scanWindowsSpec : ChangeSpec := { name := "scanWindows", fn := fun _ => fun
  | [d1, d2, d3, d4, d5] => { results := [.lit (.bool true)], args := [d1, d2, d3, d4, d5] }
  | _ => none }
def scanWindowsRow : OpenClaim := { program := "ythfdabcknagjoaa", sum := "4488d155c5d4422a8da120f9ba7e075cdbdcc34bee1a27d295873956ca36229e", func := "cyanotype/cyanotypelaw05.ScanWindows", spec := "scanWindows", unfollowed := true, recurses := true, apart := false }
def ScanWindowsSaid : Prop := scanWindowsRow.holds Try.pinned (OpenSpec.ofChange scanWindowsSpec)

/-- ITS FALSE NEIGHBOUR: 'it returns false'. Refute it at one input. -/
def scanWindowsWrong : ChangeSpec := { name := "scanWindows", fn := fun _ => fun
  | [d1, d2, d3, d4, d5] => { results := [.lit (.bool false)], args := [d1, d2, d3, d4, d5] }
  | _ => none }
def ScanWindowsWrongFalsely : Prop := scanWindowsRow.holds Try.pinned (OpenSpec.ofChange scanWindowsWrong)

/- THE SECOND FORM. 'bulk': how many values and letters a reading holds, each counted each time it is reached (what is shared counts as often as it is met; a slice's spare places count too). A statement '..UptoSaid' is the law's where the arguments, and the package variables that the reading takes, are together of bulk at most 1048576: NARROWER than '..Said'. Prove '..Said' where nothing that the law and all that it calls make is longer than what came in: it says more and counts as full. Else prove '..UptoSaid'. A law counts once. -/
mutual
def uptoBulk {H : Type} : DataW H → Nat
  | .lit (.string bytes) => bytes.length + 1
  | .lit _ => 1
  | .nil => 1
  | .ptr d => uptoBulk d + 1
  | .slice elems spare => uptoBulkAll elems + uptoBulkAll spare + 1
  | .agg parts => uptoBulkAll parts + 1
  | .iface _ d => uptoBulk d + 1
  | .map entries => uptoBulkEntries entries + 1
  | .held _ => 1
def uptoBulkAll {H : Type} : List (DataW H) → Nat
  | [] => 0
  | d :: r => uptoBulk d + uptoBulkAll r
def uptoBulkEntries {H : Type} : List (Lit × DataW H) → Nat
  | [] => 0
  | x :: r => uptoBulkEntry x + uptoBulkEntries r
def uptoBulkEntry {H : Type} : Lit × DataW H → Nat
  | (.string bytes, d) => bytes.length + uptoBulk d + 1
  | (_, d) => uptoBulk d + 1
 end
def uptoSmall : (H : Type) → List (DataW H) → Bool := fun _ ds => decide (uptoBulkAll ds ≤ 1048576)
def OpenSpec.upto (s : _root_.Go.ChangeSpec) : _root_.Go.OpenSpec := { _root_.Go.OpenSpec.ofChange s with cond := some uptoSmall }

/-- 'cyanotypelaw05.ScanPlaces', WHERE WHAT IT READS IS OF BULK AT MOST 1048576: true; the input reads as it did. -/
def scanPlacesUptoRow : OpenClaim := { program := "ythfdabcknagjoaa", sum := "4488d155c5d4422a8da120f9ba7e075cdbdcc34bee1a27d295873956ca36229e", func := "cyanotype/cyanotypelaw05.ScanPlaces", spec := "scanPlaces", unfollowed := true, recurses := true, apart := false, narrowed := true }
def ScanPlacesUptoSaid : Prop := scanPlacesUptoRow.holds Try.pinned (OpenSpec.upto scanPlacesSpec)

/-- 'cyanotypelaw05.ScanBytes', WHERE WHAT IT READS IS OF BULK AT MOST 1048576: true; the input reads as it did. -/
def scanBytesUptoRow : OpenClaim := { program := "ythfdabcknagjoaa", sum := "4488d155c5d4422a8da120f9ba7e075cdbdcc34bee1a27d295873956ca36229e", func := "cyanotype/cyanotypelaw05.ScanBytes", spec := "scanBytes", unfollowed := true, recurses := true, apart := false, narrowed := true }
def ScanBytesUptoSaid : Prop := scanBytesUptoRow.holds Try.pinned (OpenSpec.upto scanBytesSpec)

/-- 'cyanotypelaw05.ScanLooks', WHERE WHAT IT READS IS OF BULK AT MOST 1048576: true; the input reads as it did. -/
def scanLooksUptoRow : OpenClaim := { program := "ythfdabcknagjoaa", sum := "4488d155c5d4422a8da120f9ba7e075cdbdcc34bee1a27d295873956ca36229e", func := "cyanotype/cyanotypelaw05.ScanLooks", spec := "scanLooks", unfollowed := true, recurses := true, apart := false, narrowed := true }
def ScanLooksUptoSaid : Prop := scanLooksUptoRow.holds Try.pinned (OpenSpec.upto scanLooksSpec)

/-- 'cyanotypelaw05.ScanDivides', WHERE WHAT IT READS IS OF BULK AT MOST 1048576: true; the input reads as it did. -/
def scanDividesUptoRow : OpenClaim := { program := "ythfdabcknagjoaa", sum := "4488d155c5d4422a8da120f9ba7e075cdbdcc34bee1a27d295873956ca36229e", func := "cyanotype/cyanotypelaw05.ScanDivides", spec := "scanDivides", unfollowed := true, recurses := true, apart := false, narrowed := true }
def ScanDividesUptoSaid : Prop := scanDividesUptoRow.holds Try.pinned (OpenSpec.upto scanDividesSpec)

/-- 'cyanotypelaw05.ScanSame', WHERE WHAT IT READS IS OF BULK AT MOST 1048576: true; the input reads as it did. -/
def scanSameUptoRow : OpenClaim := { program := "ythfdabcknagjoaa", sum := "4488d155c5d4422a8da120f9ba7e075cdbdcc34bee1a27d295873956ca36229e", func := "cyanotype/cyanotypelaw05.ScanSame", spec := "scanSame", unfollowed := true, recurses := true, apart := false, narrowed := true }
def ScanSameUptoSaid : Prop := scanSameUptoRow.holds Try.pinned (OpenSpec.upto scanSameSpec)

/-- 'cyanotypelaw05.ScanBack', WHERE WHAT IT READS IS OF BULK AT MOST 1048576: true; the input reads as it did. -/
def scanBackUptoRow : OpenClaim := { program := "ythfdabcknagjoaa", sum := "4488d155c5d4422a8da120f9ba7e075cdbdcc34bee1a27d295873956ca36229e", func := "cyanotype/cyanotypelaw05.ScanBack", spec := "scanBack", unfollowed := true, recurses := true, apart := false, narrowed := true }
def ScanBackUptoSaid : Prop := scanBackUptoRow.holds Try.pinned (OpenSpec.upto scanBackSpec)

/-- 'cyanotypelaw05.ScanStores', WHERE WHAT IT READS IS OF BULK AT MOST 1048576: true; the input reads as it did. -/
def scanStoresUptoRow : OpenClaim := { program := "ythfdabcknagjoaa", sum := "4488d155c5d4422a8da120f9ba7e075cdbdcc34bee1a27d295873956ca36229e", func := "cyanotype/cyanotypelaw05.ScanStores", spec := "scanStores", unfollowed := true, recurses := true, apart := false, narrowed := true }
def ScanStoresUptoSaid : Prop := scanStoresUptoRow.holds Try.pinned (OpenSpec.upto scanStoresSpec)

/-- 'cyanotypelaw05.ScanWindows', WHERE WHAT IT READS IS OF BULK AT MOST 1048576: true; the input reads as it did. -/
def scanWindowsUptoRow : OpenClaim := { program := "ythfdabcknagjoaa", sum := "4488d155c5d4422a8da120f9ba7e075cdbdcc34bee1a27d295873956ca36229e", func := "cyanotype/cyanotypelaw05.ScanWindows", spec := "scanWindows", unfollowed := true, recurses := true, apart := false, narrowed := true }
def ScanWindowsUptoSaid : Prop := scanWindowsUptoRow.holds Try.pinned (OpenSpec.upto scanWindowsSpec)

end Rows
end Go.Proofs.Ythfdabcknagjoaa
