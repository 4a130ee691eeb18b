/-
  No cell of these rows narrows 'for every input' (looked for: loops, veiled, ifaces, maps, wideKeys, modest, calm, conditions, laid).
  DERIVED. THE GIVEN ROWS OF THIS SEAT. 16 by the template 'for every input the law returns true; each argument reads behind the call as it read before'; 0 by the template 'total and deterministic' (their statements: YtmnhfjhlfgebiaaTotals.lean).
  GIVEN WITH THE SEED: the statements are not yours to turn. If you find one false, say at which input.
  Laid BY PROGRAM, IN A SANDBOX (cutbox-rows.mjs): the forced cells as the released guide's own fill.sh prints them over the translation 034e559fbce7b5d6… (all of the seat's roots in one cut). By AI agents, Wed Nov 11 2026. No macro, syntax, notation, axiom, sorry.
-/
import Derived.Test.YtmnhfjhlfgebiaaChecked
import GoSem.Claim
import GoSem.ClaimJoined
import GoSem.ClaimMapViews
import Derived.JoinedTies
import Derived.KernelRfl
namespace Go.Proofs.Ytmnhfjhlfgebiaa
/- THE CELL 'sum', in the pinned program and in every row, IS THE sha256 OF THE DUMP (.gsa) THAT YtmnhfjhlfgebiaaProg.lean LOADS. Nothing in Lean hashes anything: it is a label: what it is worth is what the hold of that sum in a sandbox is worth. -/
noncomputable def Try.pinned : Pinned := { name := "ytmnhfjhlfgebiaa", sum := "034e559fbce7b5d687c4873f34f1089dc6637a7d02fed745757e2bf39778008c", checked := Try.checked }
namespace Rows
def none {H : Type} : Left H := { results := [], args := [] }

/-- 'moonpoollaw01.PathChecks': WHATEVER THE INPUT: true; the input reads as it did. -/
def pathChecksSpec : ChangeSpec := { name := "pathChecks", fn := fun _ => fun
  | [d] => { results := [.lit (.bool true)], args := [d] }
  | _ => none }
def pathChecksRow : OpenClaim := { program := "ytmnhfjhlfgebiaa", sum := "034e559fbce7b5d687c4873f34f1089dc6637a7d02fed745757e2bf39778008c", func := "moonpool/moonpoollaw01.PathChecks", spec := "pathChecks", unfollowed := true, recurses := true, apart := false }
def PathChecksSaid : Prop := pathChecksRow.holds Try.pinned (OpenSpec.ofChange pathChecksSpec)

/-- ITS FALSE NEIGHBOUR: 'it returns false'. Refute it at one input. -/
def pathChecksWrong : ChangeSpec := { name := "pathChecks", fn := fun _ => fun
  | [d] => { results := [.lit (.bool false)], args := [d] }
  | _ => none }
def PathChecksWrongFalsely : Prop := pathChecksRow.holds Try.pinned (OpenSpec.ofChange pathChecksWrong)

/-- 'moonpoollaw01.PathPlaces': WHATEVER THE INPUT: true; the input reads as it did. -/
def pathPlacesSpec : ChangeSpec := { name := "pathPlaces", fn := fun _ => fun
  | [d1, d2, d3] => { results := [.lit (.bool true)], args := [d1, d2, d3] }
  | _ => none }
def pathPlacesRow : OpenClaim := { program := "ytmnhfjhlfgebiaa", sum := "034e559fbce7b5d687c4873f34f1089dc6637a7d02fed745757e2bf39778008c", func := "moonpool/moonpoollaw01.PathPlaces", spec := "pathPlaces", unfollowed := true, recurses := true, apart := false }
def PathPlacesSaid : Prop := pathPlacesRow.holds Try.pinned (OpenSpec.ofChange pathPlacesSpec)

/-- ITS FALSE NEIGHBOUR: 'it returns false'. Refute it at one input. -/
def pathPlacesWrong : ChangeSpec := { name := "pathPlaces", fn := fun _ => fun
  | [d1, d2, d3] => { results := [.lit (.bool false)], args := [d1, d2, d3] }
  | _ => none }
def PathPlacesWrongFalsely : Prop := pathPlacesRow.holds Try.pinned (OpenSpec.ofChange pathPlacesWrong)

/-- 'moonpoollaw01.PathTurns': WHATEVER THE INPUT: true; the input reads as it did. -/
def pathTurnsSpec : ChangeSpec := { name := "pathTurns", fn := fun _ => fun
  | [d1, d2, d3, d4] => { results := [.lit (.bool true)], args := [d1, d2, d3, d4] }
  | _ => none }
def pathTurnsRow : OpenClaim := { program := "ytmnhfjhlfgebiaa", sum := "034e559fbce7b5d687c4873f34f1089dc6637a7d02fed745757e2bf39778008c", func := "moonpool/moonpoollaw01.PathTurns", spec := "pathTurns", unfollowed := true, recurses := true, apart := false }
def PathTurnsSaid : Prop := pathTurnsRow.holds Try.pinned (OpenSpec.ofChange pathTurnsSpec)

/-- ITS FALSE NEIGHBOUR: 'it returns false'. Refute it at one input. -/
def pathTurnsWrong : ChangeSpec := { name := "pathTurns", fn := fun _ => fun
  | [d1, d2, d3, d4] => { results := [.lit (.bool false)], args := [d1, d2, d3, d4] }
  | _ => none }
def PathTurnsWrongFalsely : Prop := pathTurnsRow.holds Try.pinned (OpenSpec.ofChange pathTurnsWrong)

/-- 'moonpoollaw01.PathSources': WHATEVER THE INPUT: true; the input reads as it did. -/
def pathSourcesSpec : ChangeSpec := { name := "pathSources", fn := fun _ => fun
  | [d1, d2, d3, d4] => { results := [.lit (.bool true)], args := [d1, d2, d3, d4] }
  | _ => none }
def pathSourcesRow : OpenClaim := { program := "ytmnhfjhlfgebiaa", sum := "034e559fbce7b5d687c4873f34f1089dc6637a7d02fed745757e2bf39778008c", func := "moonpool/moonpoollaw01.PathSources", spec := "pathSources", unfollowed := true, recurses := true, apart := false }
def PathSourcesSaid : Prop := pathSourcesRow.holds Try.pinned (OpenSpec.ofChange pathSourcesSpec)

/-- ITS FALSE NEIGHBOUR: 'it returns false'. Refute it at one input. -/
def pathSourcesWrong : ChangeSpec := { name := "pathSources", fn := fun _ => fun
  | [d1, d2, d3, d4] => { results := [.lit (.bool false)], args := [d1, d2, d3, d4] }
  | _ => none }
def PathSourcesWrongFalsely : Prop := pathSourcesRow.holds Try.pinned (OpenSpec.ofChange pathSourcesWrong)

/-- 'moonpoollaw01.PathParts': WHATEVER THE INPUT: true; the input reads as it did. -/
def pathPartsSpec : ChangeSpec := { name := "pathParts", fn := fun _ => fun
  | [d1, d2, d3, d4, d5] => { results := [.lit (.bool true)], args := [d1, d2, d3, d4, d5] }
  | _ => none }
def pathPartsRow : OpenClaim := { program := "ytmnhfjhlfgebiaa", sum := "034e559fbce7b5d687c4873f34f1089dc6637a7d02fed745757e2bf39778008c", func := "moonpool/moonpoollaw01.PathParts", spec := "pathParts", unfollowed := true, recurses := true, apart := false }
def PathPartsSaid : Prop := pathPartsRow.holds Try.pinned (OpenSpec.ofChange pathPartsSpec)

/-- ITS FALSE NEIGHBOUR: 'it returns false'. Refute it at one input. -/
def pathPartsWrong : ChangeSpec := { name := "pathParts", fn := fun _ => fun
  | [d1, d2, d3, d4, d5] => { results := [.lit (.bool false)], args := [d1, d2, d3, d4, d5] }
  | _ => none }
def PathPartsWrongFalsely : Prop := pathPartsRow.holds Try.pinned (OpenSpec.ofChange pathPartsWrong)

/-- 'moonpoollaw01.PathGaps': WHATEVER THE INPUT: true; the input reads as it did. -/
def pathGapsSpec : ChangeSpec := { name := "pathGaps", fn := fun _ => fun
  | [d1, d2, d3] => { results := [.lit (.bool true)], args := [d1, d2, d3] }
  | _ => none }
def pathGapsRow : OpenClaim := { program := "ytmnhfjhlfgebiaa", sum := "034e559fbce7b5d687c4873f34f1089dc6637a7d02fed745757e2bf39778008c", func := "moonpool/moonpoollaw01.PathGaps", spec := "pathGaps", unfollowed := true, recurses := true, apart := false }
def PathGapsSaid : Prop := pathGapsRow.holds Try.pinned (OpenSpec.ofChange pathGapsSpec)

/-- ITS FALSE NEIGHBOUR: 'it returns false'. Refute it at one input. -/
def pathGapsWrong : ChangeSpec := { name := "pathGaps", fn := fun _ => fun
  | [d1, d2, d3] => { results := [.lit (.bool false)], args := [d1, d2, d3] }
  | _ => none }
def PathGapsWrongFalsely : Prop := pathGapsRow.holds Try.pinned (OpenSpec.ofChange pathGapsWrong)

/-- 'moonpoollaw01.PathPlans': WHATEVER THE INPUT: true; the input reads as it did. -/
def pathPlansSpec : ChangeSpec := { name := "pathPlans", fn := fun _ => fun
  | [d1, d2, d3, d4] => { results := [.lit (.bool true)], args := [d1, d2, d3, d4] }
  | _ => none }
def pathPlansRow : OpenClaim := { program := "ytmnhfjhlfgebiaa", sum := "034e559fbce7b5d687c4873f34f1089dc6637a7d02fed745757e2bf39778008c", func := "moonpool/moonpoollaw01.PathPlans", spec := "pathPlans", unfollowed := true, recurses := true, apart := false }
def PathPlansSaid : Prop := pathPlansRow.holds Try.pinned (OpenSpec.ofChange pathPlansSpec)

/-- ITS FALSE NEIGHBOUR: 'it returns false'. Refute it at one input. -/
def pathPlansWrong : ChangeSpec := { name := "pathPlans", fn := fun _ => fun
  | [d1, d2, d3, d4] => { results := [.lit (.bool false)], args := [d1, d2, d3, d4] }
  | _ => none }
def PathPlansWrongFalsely : Prop := pathPlansRow.holds Try.pinned (OpenSpec.ofChange pathPlansWrong)

/-- 'moonpoollaw01.PathSidetracks': WHATEVER THE INPUT: true; the input reads as it did. -/
def pathSidetracksSpec : ChangeSpec := { name := "pathSidetracks", fn := fun _ => fun
  | [d1, d2, d3, d4] => { results := [.lit (.bool true)], args := [d1, d2, d3, d4] }
  | _ => none }
def pathSidetracksRow : OpenClaim := { program := "ytmnhfjhlfgebiaa", sum := "034e559fbce7b5d687c4873f34f1089dc6637a7d02fed745757e2bf39778008c", func := "moonpool/moonpoollaw01.PathSidetracks", spec := "pathSidetracks", unfollowed := true, recurses := true, apart := false }
def PathSidetracksSaid : Prop := pathSidetracksRow.holds Try.pinned (OpenSpec.ofChange pathSidetracksSpec)

/-- ITS FALSE NEIGHBOUR: 'it returns false'. Refute it at one input. -/
def pathSidetracksWrong : ChangeSpec := { name := "pathSidetracks", fn := fun _ => fun
  | [d1, d2, d3, d4] => { results := [.lit (.bool false)], args := [d1, d2, d3, d4] }
  | _ => none }
def PathSidetracksWrongFalsely : Prop := pathSidetracksRow.holds Try.pinned (OpenSpec.ofChange pathSidetracksWrong)

/-- 'moonpoollaw01.PathKnown': WHATEVER THE INPUT: true; the input reads as it did. -/
def pathKnownSpec : ChangeSpec := { name := "pathKnown", fn := fun _ => fun
  | [] => { results := [.lit (.bool true)], args := [] }
  | _ => none }
def pathKnownRow : OpenClaim := { program := "ytmnhfjhlfgebiaa", sum := "034e559fbce7b5d687c4873f34f1089dc6637a7d02fed745757e2bf39778008c", func := "moonpool/moonpoollaw01.PathKnown", spec := "pathKnown", unfollowed := true, recurses := true, apart := false }
def PathKnownSaid : Prop := pathKnownRow.holds Try.pinned (OpenSpec.ofChange pathKnownSpec)

/-- ITS FALSE NEIGHBOUR: 'it returns false'. Refute it at one input. -/
def pathKnownWrong : ChangeSpec := { name := "pathKnown", fn := fun _ => fun
  | [] => { results := [.lit (.bool false)], args := [] }
  | _ => none }
def PathKnownWrongFalsely : Prop := pathKnownRow.holds Try.pinned (OpenSpec.ofChange pathKnownWrong)

/-- 'moonpoollaw01.PathAlong': WHATEVER THE INPUT: true; the input reads as it did. -/
def pathAlongSpec : ChangeSpec := { name := "pathAlong", fn := fun _ => fun
  | [d1, d2, d3] => { results := [.lit (.bool true)], args := [d1, d2, d3] }
  | _ => none }
def pathAlongRow : OpenClaim := { program := "ytmnhfjhlfgebiaa", sum := "034e559fbce7b5d687c4873f34f1089dc6637a7d02fed745757e2bf39778008c", func := "moonpool/moonpoollaw01.PathAlong", spec := "pathAlong", unfollowed := true, recurses := true, apart := false }
def PathAlongSaid : Prop := pathAlongRow.holds Try.pinned (OpenSpec.ofChange pathAlongSpec)

/-- ITS FALSE NEIGHBOUR: 'it returns false'. Refute it at one input. -/
def pathAlongWrong : ChangeSpec := { name := "pathAlong", fn := fun _ => fun
  | [d1, d2, d3] => { results := [.lit (.bool false)], args := [d1, d2, d3] }
  | _ => none }
def PathAlongWrongFalsely : Prop := pathAlongRow.holds Try.pinned (OpenSpec.ofChange pathAlongWrong)

/-- 'moonpoollaw01.PathDirections': WHATEVER THE INPUT: true; the input reads as it did. -/
def pathDirectionsSpec : ChangeSpec := { name := "pathDirections", fn := fun _ => fun
  | [d1, d2, d3, d4] => { results := [.lit (.bool true)], args := [d1, d2, d3, d4] }
  | _ => none }
def pathDirectionsRow : OpenClaim := { program := "ytmnhfjhlfgebiaa", sum := "034e559fbce7b5d687c4873f34f1089dc6637a7d02fed745757e2bf39778008c", func := "moonpool/moonpoollaw01.PathDirections", spec := "pathDirections", unfollowed := true, recurses := true, apart := false }
def PathDirectionsSaid : Prop := pathDirectionsRow.holds Try.pinned (OpenSpec.ofChange pathDirectionsSpec)

/-- ITS FALSE NEIGHBOUR: 'it returns false'. Refute it at one input. -/
def pathDirectionsWrong : ChangeSpec := { name := "pathDirections", fn := fun _ => fun
  | [d1, d2, d3, d4] => { results := [.lit (.bool false)], args := [d1, d2, d3, d4] }
  | _ => none }
def PathDirectionsWrongFalsely : Prop := pathDirectionsRow.holds Try.pinned (OpenSpec.ofChange pathDirectionsWrong)

/-- 'moonpoollaw01.PathBoxes': WHATEVER THE INPUT: true; the input reads as it did. -/
def pathBoxesSpec : ChangeSpec := { name := "pathBoxes", fn := fun _ => fun
  | [d1, d2, d3] => { results := [.lit (.bool true)], args := [d1, d2, d3] }
  | _ => none }
def pathBoxesRow : OpenClaim := { program := "ytmnhfjhlfgebiaa", sum := "034e559fbce7b5d687c4873f34f1089dc6637a7d02fed745757e2bf39778008c", func := "moonpool/moonpoollaw01.PathBoxes", spec := "pathBoxes", unfollowed := true, recurses := true, apart := false }
def PathBoxesSaid : Prop := pathBoxesRow.holds Try.pinned (OpenSpec.ofChange pathBoxesSpec)

/-- ITS FALSE NEIGHBOUR: 'it returns false'. Refute it at one input. -/
def pathBoxesWrong : ChangeSpec := { name := "pathBoxes", fn := fun _ => fun
  | [d1, d2, d3] => { results := [.lit (.bool false)], args := [d1, d2, d3] }
  | _ => none }
def PathBoxesWrongFalsely : Prop := pathBoxesRow.holds Try.pinned (OpenSpec.ofChange pathBoxesWrong)

/-- 'moonpoollaw01.PathErrors': WHATEVER THE INPUT: true; the input reads as it did. -/
def pathErrorsSpec : ChangeSpec := { name := "pathErrors", fn := fun _ => fun
  | [d1, d2, d3, d4, d5, d6, d7] => { results := [.lit (.bool true)], args := [d1, d2, d3, d4, d5, d6, d7] }
  | _ => none }
def pathErrorsRow : OpenClaim := { program := "ytmnhfjhlfgebiaa", sum := "034e559fbce7b5d687c4873f34f1089dc6637a7d02fed745757e2bf39778008c", func := "moonpool/moonpoollaw01.PathErrors", spec := "pathErrors", unfollowed := true, recurses := true, apart := false }
def PathErrorsSaid : Prop := pathErrorsRow.holds Try.pinned (OpenSpec.ofChange pathErrorsSpec)

/-- ITS FALSE NEIGHBOUR: 'it returns false'. Refute it at one input. -/
def pathErrorsWrong : ChangeSpec := { name := "pathErrors", fn := fun _ => fun
  | [d1, d2, d3, d4, d5, d6, d7] => { results := [.lit (.bool false)], args := [d1, d2, d3, d4, d5, d6, d7] }
  | _ => none }
def PathErrorsWrongFalsely : Prop := pathErrorsRow.holds Try.pinned (OpenSpec.ofChange pathErrorsWrong)

/-- 'moonpoollaw01.PathOrder': WHATEVER THE INPUT: true; the input reads as it did. -/
def pathOrderSpec : ChangeSpec := { name := "pathOrder", fn := fun _ => fun
  | [d1, d2] => { results := [.lit (.bool true)], args := [d1, d2] }
  | _ => none }
def pathOrderRow : OpenClaim := { program := "ytmnhfjhlfgebiaa", sum := "034e559fbce7b5d687c4873f34f1089dc6637a7d02fed745757e2bf39778008c", func := "moonpool/moonpoollaw01.PathOrder", spec := "pathOrder", unfollowed := true, recurses := true, apart := false }
def PathOrderSaid : Prop := pathOrderRow.holds Try.pinned (OpenSpec.ofChange pathOrderSpec)

/-- ITS FALSE NEIGHBOUR: 'it returns false'. Refute it at one input. -/
def pathOrderWrong : ChangeSpec := { name := "pathOrder", fn := fun _ => fun
  | [d1, d2] => { results := [.lit (.bool false)], args := [d1, d2] }
  | _ => none }
def PathOrderWrongFalsely : Prop := pathOrderRow.holds Try.pinned (OpenSpec.ofChange pathOrderWrong)

/-- 'moonpoollaw01.PathBest': WHATEVER THE INPUT: true; the input reads as it did. -/
def pathBestSpec : ChangeSpec := { name := "pathBest", fn := fun _ => fun
  | [d1, d2] => { results := [.lit (.bool true)], args := [d1, d2] }
  | _ => none }
def pathBestRow : OpenClaim := { program := "ytmnhfjhlfgebiaa", sum := "034e559fbce7b5d687c4873f34f1089dc6637a7d02fed745757e2bf39778008c", func := "moonpool/moonpoollaw01.PathBest", spec := "pathBest", unfollowed := true, recurses := true, apart := false }
def PathBestSaid : Prop := pathBestRow.holds Try.pinned (OpenSpec.ofChange pathBestSpec)

/-- ITS FALSE NEIGHBOUR: 'it returns false'. Refute it at one input. -/
def pathBestWrong : ChangeSpec := { name := "pathBest", fn := fun _ => fun
  | [d1, d2] => { results := [.lit (.bool false)], args := [d1, d2] }
  | _ => none }
def PathBestWrongFalsely : Prop := pathBestRow.holds Try.pinned (OpenSpec.ofChange pathBestWrong)

/-- 'moonpoollaw01.PathMoved': WHATEVER THE INPUT: true; the input reads as it did. -/
def pathMovedSpec : ChangeSpec := { name := "pathMoved", fn := fun _ => fun
  | [d1, d2, d3, d4] => { results := [.lit (.bool true)], args := [d1, d2, d3, d4] }
  | _ => none }
def pathMovedRow : OpenClaim := { program := "ytmnhfjhlfgebiaa", sum := "034e559fbce7b5d687c4873f34f1089dc6637a7d02fed745757e2bf39778008c", func := "moonpool/moonpoollaw01.PathMoved", spec := "pathMoved", unfollowed := true, recurses := true, apart := false }
def PathMovedSaid : Prop := pathMovedRow.holds Try.pinned (OpenSpec.ofChange pathMovedSpec)

/-- ITS FALSE NEIGHBOUR: 'it returns false'. Refute it at one input. -/
def pathMovedWrong : ChangeSpec := { name := "pathMoved", fn := fun _ => fun
  | [d1, d2, d3, d4] => { results := [.lit (.bool false)], args := [d1, d2, d3, d4] }
  | _ => none }
def PathMovedWrongFalsely : Prop := pathMovedRow.holds Try.pinned (OpenSpec.ofChange pathMovedWrong)

/- THE SECOND FORM. 'bulk': how many values and letters a reading holds, each counted each time it is reached (what is shared counts as often as it is met; a slice's spare places count too). A statement '..UptoSaid' is the law's where the arguments, and the package variables that the reading takes, are together of bulk at most 1048576: NARROWER than '..Said'. Prove '..Said' where nothing that the law and all that it calls make is longer than what came in: it says more and counts as full. Else prove '..UptoSaid'. A law counts once. -/
mutual
def uptoBulk {H : Type} : DataW H → Nat
  | .lit (.string bytes) => bytes.length + 1
  | .lit _ => 1
  | .nil => 1
  | .ptr d => uptoBulk d + 1
  | .slice elems spare => uptoBulkAll elems + uptoBulkAll spare + 1
  | .agg parts => uptoBulkAll parts + 1
  | .iface _ d => uptoBulk d + 1
  | .map entries => uptoBulkEntries entries + 1
  | .held _ => 1
def uptoBulkAll {H : Type} : List (DataW H) → Nat
  | [] => 0
  | d :: r => uptoBulk d + uptoBulkAll r
def uptoBulkEntries {H : Type} : List (Lit × DataW H) → Nat
  | [] => 0
  | x :: r => uptoBulkEntry x + uptoBulkEntries r
def uptoBulkEntry {H : Type} : Lit × DataW H → Nat
  | (.string bytes, d) => bytes.length + uptoBulk d + 1
  | (_, d) => uptoBulk d + 1
 end
def uptoSmall : (H : Type) → List (DataW H) → Bool := fun _ ds => decide (uptoBulkAll ds ≤ 1048576)
def OpenSpec.upto (s : _root_.Go.ChangeSpec) : _root_.Go.OpenSpec := { _root_.Go.OpenSpec.ofChange s with cond := some uptoSmall }

/-- 'moonpoollaw01.PathChecks', WHERE WHAT IT READS IS OF BULK AT MOST 1048576: true; the input reads as it did. -/
def pathChecksUptoRow : OpenClaim := { program := "ytmnhfjhlfgebiaa", sum := "034e559fbce7b5d687c4873f34f1089dc6637a7d02fed745757e2bf39778008c", func := "moonpool/moonpoollaw01.PathChecks", spec := "pathChecks", unfollowed := true, recurses := true, apart := false, narrowed := true }
def PathChecksUptoSaid : Prop := pathChecksUptoRow.holds Try.pinned (OpenSpec.upto pathChecksSpec)

/-- 'moonpoollaw01.PathPlaces', WHERE WHAT IT READS IS OF BULK AT MOST 1048576: true; the input reads as it did. -/
def pathPlacesUptoRow : OpenClaim := { program := "ytmnhfjhlfgebiaa", sum := "034e559fbce7b5d687c4873f34f1089dc6637a7d02fed745757e2bf39778008c", func := "moonpool/moonpoollaw01.PathPlaces", spec := "pathPlaces", unfollowed := true, recurses := true, apart := false, narrowed := true }
def PathPlacesUptoSaid : Prop := pathPlacesUptoRow.holds Try.pinned (OpenSpec.upto pathPlacesSpec)

/-- 'moonpoollaw01.PathTurns', WHERE WHAT IT READS IS OF BULK AT MOST 1048576: true; the input reads as it did. -/
def pathTurnsUptoRow : OpenClaim := { program := "ytmnhfjhlfgebiaa", sum := "034e559fbce7b5d687c4873f34f1089dc6637a7d02fed745757e2bf39778008c", func := "moonpool/moonpoollaw01.PathTurns", spec := "pathTurns", unfollowed := true, recurses := true, apart := false, narrowed := true }
def PathTurnsUptoSaid : Prop := pathTurnsUptoRow.holds Try.pinned (OpenSpec.upto pathTurnsSpec)

/-- 'moonpoollaw01.PathSources', WHERE WHAT IT READS IS OF BULK AT MOST 1048576: true; the input reads as it did. -/
def pathSourcesUptoRow : OpenClaim := { program := "ytmnhfjhlfgebiaa", sum := "034e559fbce7b5d687c4873f34f1089dc6637a7d02fed745757e2bf39778008c", func := "moonpool/moonpoollaw01.PathSources", spec := "pathSources", unfollowed := true, recurses := true, apart := false, narrowed := true }
def PathSourcesUptoSaid : Prop := pathSourcesUptoRow.holds Try.pinned (OpenSpec.upto pathSourcesSpec)

/-- 'moonpoollaw01.PathParts', WHERE WHAT IT READS IS OF BULK AT MOST 1048576: true; the input reads as it did. -/
def pathPartsUptoRow : OpenClaim := { program := "ytmnhfjhlfgebiaa", sum := "034e559fbce7b5d687c4873f34f1089dc6637a7d02fed745757e2bf39778008c", func := "moonpool/moonpoollaw01.PathParts", spec := "pathParts", unfollowed := true, recurses := true, apart := false, narrowed := true }
def PathPartsUptoSaid : Prop := pathPartsUptoRow.holds Try.pinned (OpenSpec.upto pathPartsSpec)

/-- 'moonpoollaw01.PathGaps', WHERE WHAT IT READS IS OF BULK AT MOST 1048576: true; the input reads as it did. -/
def pathGapsUptoRow : OpenClaim := { program := "ytmnhfjhlfgebiaa", sum := "034e559fbce7b5d687c4873f34f1089dc6637a7d02fed745757e2bf39778008c", func := "moonpool/moonpoollaw01.PathGaps", spec := "pathGaps", unfollowed := true, recurses := true, apart := false, narrowed := true }
def PathGapsUptoSaid : Prop := pathGapsUptoRow.holds Try.pinned (OpenSpec.upto pathGapsSpec)

/-- 'moonpoollaw01.PathPlans', WHERE WHAT IT READS IS OF BULK AT MOST 1048576: true; the input reads as it did. -/
def pathPlansUptoRow : OpenClaim := { program := "ytmnhfjhlfgebiaa", sum := "034e559fbce7b5d687c4873f34f1089dc6637a7d02fed745757e2bf39778008c", func := "moonpool/moonpoollaw01.PathPlans", spec := "pathPlans", unfollowed := true, recurses := true, apart := false, narrowed := true }
def PathPlansUptoSaid : Prop := pathPlansUptoRow.holds Try.pinned (OpenSpec.upto pathPlansSpec)

/-- 'moonpoollaw01.PathSidetracks', WHERE WHAT IT READS IS OF BULK AT MOST 1048576: true; the input reads as it did. -/
def pathSidetracksUptoRow : OpenClaim := { program := "ytmnhfjhlfgebiaa", sum := "034e559fbce7b5d687c4873f34f1089dc6637a7d02fed745757e2bf39778008c", func := "moonpool/moonpoollaw01.PathSidetracks", spec := "pathSidetracks", unfollowed := true, recurses := true, apart := false, narrowed := true }
def PathSidetracksUptoSaid : Prop := pathSidetracksUptoRow.holds Try.pinned (OpenSpec.upto pathSidetracksSpec)

/-- 'moonpoollaw01.PathKnown', WHERE WHAT IT READS IS OF BULK AT MOST 1048576: true; the input reads as it did. -/
def pathKnownUptoRow : OpenClaim := { program := "ytmnhfjhlfgebiaa", sum := "034e559fbce7b5d687c4873f34f1089dc6637a7d02fed745757e2bf39778008c", func := "moonpool/moonpoollaw01.PathKnown", spec := "pathKnown", unfollowed := true, recurses := true, apart := false, narrowed := true }
def PathKnownUptoSaid : Prop := pathKnownUptoRow.holds Try.pinned (OpenSpec.upto pathKnownSpec)

/-- 'moonpoollaw01.PathAlong', WHERE WHAT IT READS IS OF BULK AT MOST 1048576: true; the input reads as it did. -/
def pathAlongUptoRow : OpenClaim := { program := "ytmnhfjhlfgebiaa", sum := "034e559fbce7b5d687c4873f34f1089dc6637a7d02fed745757e2bf39778008c", func := "moonpool/moonpoollaw01.PathAlong", spec := "pathAlong", unfollowed := true, recurses := true, apart := false, narrowed := true }
def PathAlongUptoSaid : Prop := pathAlongUptoRow.holds Try.pinned (OpenSpec.upto pathAlongSpec)

/-- 'moonpoollaw01.PathDirections', WHERE WHAT IT READS IS OF BULK AT MOST 1048576: true; the input reads as it did. -/
def pathDirectionsUptoRow : OpenClaim := { program := "ytmnhfjhlfgebiaa", sum := "034e559fbce7b5d687c4873f34f1089dc6637a7d02fed745757e2bf39778008c", func := "moonpool/moonpoollaw01.PathDirections", spec := "pathDirections", unfollowed := true, recurses := true, apart := false, narrowed := true }
def PathDirectionsUptoSaid : Prop := pathDirectionsUptoRow.holds Try.pinned (OpenSpec.upto pathDirectionsSpec)

/-- 'moonpoollaw01.PathBoxes', WHERE WHAT IT READS IS OF BULK AT MOST 1048576: true; the input reads as it did. -/
def pathBoxesUptoRow : OpenClaim := { program := "ytmnhfjhlfgebiaa", sum := "034e559fbce7b5d687c4873f34f1089dc6637a7d02fed745757e2bf39778008c", func := "moonpool/moonpoollaw01.PathBoxes", spec := "pathBoxes", unfollowed := true, recurses := true, apart := false, narrowed := true }
def PathBoxesUptoSaid : Prop := pathBoxesUptoRow.holds Try.pinned (OpenSpec.upto pathBoxesSpec)

/-- 'moonpoollaw01.PathErrors', WHERE WHAT IT READS IS OF BULK AT MOST 1048576: true; the input reads as it did. -/
def pathErrorsUptoRow : OpenClaim := { program := "ytmnhfjhlfgebiaa", sum := "034e559fbce7b5d687c4873f34f1089dc6637a7d02fed745757e2bf39778008c", func := "moonpool/moonpoollaw01.PathErrors", spec := "pathErrors", unfollowed := true, recurses := true, apart := false, narrowed := true }
def PathErrorsUptoSaid : Prop := pathErrorsUptoRow.holds Try.pinned (OpenSpec.upto pathErrorsSpec)

/-- 'moonpoollaw01.PathOrder', WHERE WHAT IT READS IS OF BULK AT MOST 1048576: true; the input reads as it did. -/
def pathOrderUptoRow : OpenClaim := { program := "ytmnhfjhlfgebiaa", sum := "034e559fbce7b5d687c4873f34f1089dc6637a7d02fed745757e2bf39778008c", func := "moonpool/moonpoollaw01.PathOrder", spec := "pathOrder", unfollowed := true, recurses := true, apart := false, narrowed := true }
def PathOrderUptoSaid : Prop := pathOrderUptoRow.holds Try.pinned (OpenSpec.upto pathOrderSpec)

/-- 'moonpoollaw01.PathBest', WHERE WHAT IT READS IS OF BULK AT MOST 1048576: true; the input reads as it did. -/
def pathBestUptoRow : OpenClaim := { program := "ytmnhfjhlfgebiaa", sum := "034e559fbce7b5d687c4873f34f1089dc6637a7d02fed745757e2bf39778008c", func := "moonpool/moonpoollaw01.PathBest", spec := "pathBest", unfollowed := true, recurses := true, apart := false, narrowed := true }
def PathBestUptoSaid : Prop := pathBestUptoRow.holds Try.pinned (OpenSpec.upto pathBestSpec)

/-- 'moonpoollaw01.PathMoved', WHERE WHAT IT READS IS OF BULK AT MOST 1048576: true; the input reads as it did. -/
def pathMovedUptoRow : OpenClaim := { program := "ytmnhfjhlfgebiaa", sum := "034e559fbce7b5d687c4873f34f1089dc6637a7d02fed745757e2bf39778008c", func := "moonpool/moonpoollaw01.PathMoved", spec := "pathMoved", unfollowed := true, recurses := true, apart := false, narrowed := true }
def PathMovedUptoSaid : Prop := pathMovedUptoRow.holds Try.pinned (OpenSpec.upto pathMovedSpec)

end Rows
end Go.Proofs.Ytmnhfjhlfgebiaa
