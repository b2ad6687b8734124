/-
  No cell of these rows narrows 'for every input' (looked for: loops, veiled, ifaces, maps, wideKeys, modest, calm, conditions, laid).
  DERIVED. THE GIVEN ROWS OF THIS SEAT. 8 by the template 'for every input the law returns true; each argument reads behind the call as it read before'; 0 by the template 'total and deterministic' (their statements: YtlnffcledpccjaaTotals.lean).
  GIVEN WITH THE SEED: the statements are not yours to turn. If you find one false, say at which input.
  Laid BY PROGRAM, IN A SANDBOX (cutbox-rows.mjs): the forced cells as the released guide's own fill.sh prints them over the translation 0aa99d52ecf40e9a… (all of the seat's roots in one cut). By AI agents, Wed Nov 11 2026. No macro, syntax, notation, axiom, sorry.
-/
import Derived.Test.YtlnffcledpccjaaChecked
import GoSem.Claim
import GoSem.ClaimJoined
import GoSem.ClaimMapViews
import Derived.JoinedTies
import Derived.KernelRfl
namespace Go.Proofs.Ytlnffcledpccjaa
/- THE CELL 'sum', in the pinned program and in every row, IS THE sha256 OF THE DUMP (.gsa) THAT YtlnffcledpccjaaProg.lean LOADS. Nothing in Lean hashes anything: it is a label: what it is worth is what the hold of that sum in a sandbox is worth. -/
noncomputable def Try.pinned : Pinned := { name := "ytlnffcledpccjaa", sum := "0aa99d52ecf40e9a924a32018e4030b5bd74c980ab8b2ed7e6b6f0405be1e569", checked := Try.checked }
namespace Rows
def none {H : Type} : Left H := { results := [], args := [] }

/-- 'grommetlaw07.PagerFrames': WHATEVER THE INPUT: true; the input reads as it did. -/
def pagerFramesSpec : ChangeSpec := { name := "pagerFrames", fn := fun _ => fun
  | [d1, d2] => { results := [.lit (.bool true)], args := [d1, d2] }
  | _ => none }
def pagerFramesRow : OpenClaim := { program := "ytlnffcledpccjaa", sum := "0aa99d52ecf40e9a924a32018e4030b5bd74c980ab8b2ed7e6b6f0405be1e569", func := "grommet/grommetlaw07.PagerFrames", spec := "pagerFrames", inPlace := ["sync/atomic.AddInt64", "sync/atomic.StoreUint32"], unfollowed := true, recurses := true, plainKeys := false, apart := false }
def PagerFramesSaid : Prop := pagerFramesRow.holds Try.pinned (OpenSpec.ofChange pagerFramesSpec)

/-- ITS FALSE NEIGHBOUR: 'it returns false'. Refute it at one input. -/
def pagerFramesWrong : ChangeSpec := { name := "pagerFrames", fn := fun _ => fun
  | [d1, d2] => { results := [.lit (.bool false)], args := [d1, d2] }
  | _ => none }
def PagerFramesWrongFalsely : Prop := pagerFramesRow.holds Try.pinned (OpenSpec.ofChange pagerFramesWrong)

/-- 'grommetlaw07.PagerZeros': WHATEVER THE INPUT: true; the input reads as it did. -/
def pagerZerosSpec : ChangeSpec := { name := "pagerZeros", fn := fun _ => fun
  | [d1, d2] => { results := [.lit (.bool true)], args := [d1, d2] }
  | _ => none }
def pagerZerosRow : OpenClaim := { program := "ytlnffcledpccjaa", sum := "0aa99d52ecf40e9a924a32018e4030b5bd74c980ab8b2ed7e6b6f0405be1e569", func := "grommet/grommetlaw07.PagerZeros", spec := "pagerZeros", inPlace := ["sync/atomic.AddInt64", "sync/atomic.StoreUint32"], unfollowed := true, recurses := true, plainKeys := false, apart := false }
def PagerZerosSaid : Prop := pagerZerosRow.holds Try.pinned (OpenSpec.ofChange pagerZerosSpec)

/-- ITS FALSE NEIGHBOUR: 'it returns false'. Refute it at one input. -/
def pagerZerosWrong : ChangeSpec := { name := "pagerZeros", fn := fun _ => fun
  | [d1, d2] => { results := [.lit (.bool false)], args := [d1, d2] }
  | _ => none }
def PagerZerosWrongFalsely : Prop := pagerZerosRow.holds Try.pinned (OpenSpec.ofChange pagerZerosWrong)

/-- 'grommetlaw07.PagerMems': WHATEVER THE INPUT: true; the input reads as it did. -/
def pagerMemsSpec : ChangeSpec := { name := "pagerMems", fn := fun _ => fun
  | [d1, d2] => { results := [.lit (.bool true)], args := [d1, d2] }
  | _ => none }
def pagerMemsRow : OpenClaim := { program := "ytlnffcledpccjaa", sum := "0aa99d52ecf40e9a924a32018e4030b5bd74c980ab8b2ed7e6b6f0405be1e569", func := "grommet/grommetlaw07.PagerMems", spec := "pagerMems", inPlace := ["sync/atomic.AddInt64", "sync/atomic.StoreUint32"], unfollowed := true, recurses := true, plainKeys := false, apart := false }
def PagerMemsSaid : Prop := pagerMemsRow.holds Try.pinned (OpenSpec.ofChange pagerMemsSpec)

/-- ITS FALSE NEIGHBOUR: 'it returns false'. Refute it at one input. -/
def pagerMemsWrong : ChangeSpec := { name := "pagerMems", fn := fun _ => fun
  | [d1, d2] => { results := [.lit (.bool false)], args := [d1, d2] }
  | _ => none }
def PagerMemsWrongFalsely : Prop := pagerMemsRow.holds Try.pinned (OpenSpec.ofChange pagerMemsWrong)

/-- 'grommetlaw08.SpacePlays': WHATEVER THE INPUT: true; the input reads as it did. -/
def spacePlaysSpec : ChangeSpec := { name := "spacePlays", fn := fun _ => fun
  | [d1, d2, d3] => { results := [.lit (.bool true)], args := [d1, d2, d3] }
  | _ => none }
def spacePlaysRow : OpenClaim := { program := "ytlnffcledpccjaa", sum := "0aa99d52ecf40e9a924a32018e4030b5bd74c980ab8b2ed7e6b6f0405be1e569", func := "grommet/grommetlaw08.SpacePlays", spec := "spacePlays", inPlace := ["sync/atomic.AddInt64", "sync/atomic.StoreUint32", "internal/bytealg.MakeNoZero"], unfollowed := true, recurses := true, plainKeys := false, apart := false }
def SpacePlaysSaid : Prop := spacePlaysRow.holds Try.pinned (OpenSpec.ofChange spacePlaysSpec)

/-- ITS FALSE NEIGHBOUR: 'it returns false'. Refute it at one input. -/
def spacePlaysWrong : ChangeSpec := { name := "spacePlays", fn := fun _ => fun
  | [d1, d2, d3] => { results := [.lit (.bool false)], args := [d1, d2, d3] }
  | _ => none }
def SpacePlaysWrongFalsely : Prop := spacePlaysRow.holds Try.pinned (OpenSpec.ofChange spacePlaysWrong)

/-- 'grommetlaw08.SpaceMakes': WHATEVER THE INPUT: true; the input reads as it did. -/
def spaceMakesSpec : ChangeSpec := { name := "spaceMakes", fn := fun _ => fun
  | [d1, d2, d3, d4, d5] => { results := [.lit (.bool true)], args := [d1, d2, d3, d4, d5] }
  | _ => none }
def spaceMakesRow : OpenClaim := { program := "ytlnffcledpccjaa", sum := "0aa99d52ecf40e9a924a32018e4030b5bd74c980ab8b2ed7e6b6f0405be1e569", func := "grommet/grommetlaw08.SpaceMakes", spec := "spaceMakes", inPlace := ["sync/atomic.AddInt64", "sync/atomic.StoreUint32", "internal/bytealg.MakeNoZero"], unfollowed := true, recurses := true, plainKeys := false, apart := false }
def SpaceMakesSaid : Prop := spaceMakesRow.holds Try.pinned (OpenSpec.ofChange spaceMakesSpec)

/-- ITS FALSE NEIGHBOUR: 'it returns false'. Refute it at one input. -/
def spaceMakesWrong : ChangeSpec := { name := "spaceMakes", fn := fun _ => fun
  | [d1, d2, d3, d4, d5] => { results := [.lit (.bool false)], args := [d1, d2, d3, d4, d5] }
  | _ => none }
def SpaceMakesWrongFalsely : Prop := spaceMakesRow.holds Try.pinned (OpenSpec.ofChange spaceMakesWrong)

/-- 'grommetlaw08.SpaceOverlaps': WHATEVER THE INPUT: true; the input reads as it did. -/
def spaceOverlapsSpec : ChangeSpec := { name := "spaceOverlaps", fn := fun _ => fun
  | [d1, d2, d3, d4] => { results := [.lit (.bool true)], args := [d1, d2, d3, d4] }
  | _ => none }
def spaceOverlapsRow : OpenClaim := { program := "ytlnffcledpccjaa", sum := "0aa99d52ecf40e9a924a32018e4030b5bd74c980ab8b2ed7e6b6f0405be1e569", func := "grommet/grommetlaw08.SpaceOverlaps", spec := "spaceOverlaps", inPlace := ["sync/atomic.AddInt64", "sync/atomic.StoreUint32"], unfollowed := true, recurses := true, plainKeys := false, apart := false }
def SpaceOverlapsSaid : Prop := spaceOverlapsRow.holds Try.pinned (OpenSpec.ofChange spaceOverlapsSpec)

/-- ITS FALSE NEIGHBOUR: 'it returns false'. Refute it at one input. -/
def spaceOverlapsWrong : ChangeSpec := { name := "spaceOverlaps", fn := fun _ => fun
  | [d1, d2, d3, d4] => { results := [.lit (.bool false)], args := [d1, d2, d3, d4] }
  | _ => none }
def SpaceOverlapsWrongFalsely : Prop := spaceOverlapsRow.holds Try.pinned (OpenSpec.ofChange spaceOverlapsWrong)

/-- 'grommetlaw08.SpaceNone': WHATEVER THE INPUT: true; the input reads as it did. -/
def spaceNoneSpec : ChangeSpec := { name := "spaceNone", fn := fun _ => fun
  | [d1, d2, d3] => { results := [.lit (.bool true)], args := [d1, d2, d3] }
  | _ => none }
def spaceNoneRow : OpenClaim := { program := "ytlnffcledpccjaa", sum := "0aa99d52ecf40e9a924a32018e4030b5bd74c980ab8b2ed7e6b6f0405be1e569", func := "grommet/grommetlaw08.SpaceNone", spec := "spaceNone", inPlace := ["sync/atomic.AddInt64", "sync/atomic.StoreUint32", "internal/bytealg.MakeNoZero"], unfollowed := true, recurses := true, plainKeys := false, apart := false }
def SpaceNoneSaid : Prop := spaceNoneRow.holds Try.pinned (OpenSpec.ofChange spaceNoneSpec)

/-- ITS FALSE NEIGHBOUR: 'it returns false'. Refute it at one input. -/
def spaceNoneWrong : ChangeSpec := { name := "spaceNone", fn := fun _ => fun
  | [d1, d2, d3] => { results := [.lit (.bool false)], args := [d1, d2, d3] }
  | _ => none }
def SpaceNoneWrongFalsely : Prop := spaceNoneRow.holds Try.pinned (OpenSpec.ofChange spaceNoneWrong)

/-- 'grommetlaw08.SpaceGrows': WHATEVER THE INPUT: true; the input reads as it did. -/
def spaceGrowsSpec : ChangeSpec := { name := "spaceGrows", fn := fun _ => fun
  | [d1, d2, d3, d4, d5] => { results := [.lit (.bool true)], args := [d1, d2, d3, d4, d5] }
  | _ => none }
def spaceGrowsRow : OpenClaim := { program := "ytlnffcledpccjaa", sum := "0aa99d52ecf40e9a924a32018e4030b5bd74c980ab8b2ed7e6b6f0405be1e569", func := "grommet/grommetlaw08.SpaceGrows", spec := "spaceGrows", inPlace := ["sync/atomic.AddInt64", "sync/atomic.StoreUint32"], unfollowed := true, recurses := true, plainKeys := false, apart := false }
def SpaceGrowsSaid : Prop := spaceGrowsRow.holds Try.pinned (OpenSpec.ofChange spaceGrowsSpec)

/-- ITS FALSE NEIGHBOUR: 'it returns false'. Refute it at one input. -/
def spaceGrowsWrong : ChangeSpec := { name := "spaceGrows", fn := fun _ => fun
  | [d1, d2, d3, d4, d5] => { results := [.lit (.bool false)], args := [d1, d2, d3, d4, d5] }
  | _ => none }
def SpaceGrowsWrongFalsely : Prop := spaceGrowsRow.holds Try.pinned (OpenSpec.ofChange spaceGrowsWrong)

/- THE SECOND FORM. 'bulk': how many values and letters a reading holds, each counted each time it is reached (what is shared counts as often as it is met; a slice's spare places count too). A statement '..UptoSaid' is the law's where the arguments, and the package variables that the reading takes, are together of bulk at most 1048576: NARROWER than '..Said'. Prove '..Said' where nothing that the law and all that it calls make is longer than what came in: it says more and counts as full. Else prove '..UptoSaid'. A law counts once. -/
mutual
def uptoBulk {H : Type} : DataW H → Nat
  | .lit (.string bytes) => bytes.length + 1
  | .lit _ => 1
  | .nil => 1
  | .ptr d => uptoBulk d + 1
  | .slice elems spare => uptoBulkAll elems + uptoBulkAll spare + 1
  | .agg parts => uptoBulkAll parts + 1
  | .iface _ d => uptoBulk d + 1
  | .map entries => uptoBulkEntries entries + 1
  | .held _ => 1
def uptoBulkAll {H : Type} : List (DataW H) → Nat
  | [] => 0
  | d :: r => uptoBulk d + uptoBulkAll r
def uptoBulkEntries {H : Type} : List (Lit × DataW H) → Nat
  | [] => 0
  | x :: r => uptoBulkEntry x + uptoBulkEntries r
def uptoBulkEntry {H : Type} : Lit × DataW H → Nat
  | (.string bytes, d) => bytes.length + uptoBulk d + 1
  | (_, d) => uptoBulk d + 1
 end
def uptoSmall : (H : Type) → List (DataW H) → Bool := fun _ ds => decide (uptoBulkAll ds ≤ 1048576)
def OpenSpec.upto (s : _root_.Go.ChangeSpec) : _root_.Go.OpenSpec := { _root_.Go.OpenSpec.ofChange s with cond := some uptoSmall }

/-- 'grommetlaw07.PagerFrames', WHERE WHAT IT READS IS OF BULK AT MOST 1048576: true; the input reads as it did. -/
def pagerFramesUptoRow : OpenClaim := { program := "ytlnffcledpccjaa", sum := "0aa99d52ecf40e9a924a32018e4030b5bd74c980ab8b2ed7e6b6f0405be1e569", func := "grommet/grommetlaw07.PagerFrames", spec := "pagerFrames", inPlace := ["sync/atomic.AddInt64", "sync/atomic.StoreUint32"], unfollowed := true, recurses := true, plainKeys := false, apart := false, narrowed := true }
def PagerFramesUptoSaid : Prop := pagerFramesUptoRow.holds Try.pinned (OpenSpec.upto pagerFramesSpec)

/-- 'grommetlaw07.PagerZeros', WHERE WHAT IT READS IS OF BULK AT MOST 1048576: true; the input reads as it did. -/
def pagerZerosUptoRow : OpenClaim := { program := "ytlnffcledpccjaa", sum := "0aa99d52ecf40e9a924a32018e4030b5bd74c980ab8b2ed7e6b6f0405be1e569", func := "grommet/grommetlaw07.PagerZeros", spec := "pagerZeros", inPlace := ["sync/atomic.AddInt64", "sync/atomic.StoreUint32"], unfollowed := true, recurses := true, plainKeys := false, apart := false, narrowed := true }
def PagerZerosUptoSaid : Prop := pagerZerosUptoRow.holds Try.pinned (OpenSpec.upto pagerZerosSpec)

/-- 'grommetlaw07.PagerMems', WHERE WHAT IT READS IS OF BULK AT MOST 1048576: true; the input reads as it did. -/
def pagerMemsUptoRow : OpenClaim := { program := "ytlnffcledpccjaa", sum := "0aa99d52ecf40e9a924a32018e4030b5bd74c980ab8b2ed7e6b6f0405be1e569", func := "grommet/grommetlaw07.PagerMems", spec := "pagerMems", inPlace := ["sync/atomic.AddInt64", "sync/atomic.StoreUint32"], unfollowed := true, recurses := true, plainKeys := false, apart := false, narrowed := true }
def PagerMemsUptoSaid : Prop := pagerMemsUptoRow.holds Try.pinned (OpenSpec.upto pagerMemsSpec)

/-- 'grommetlaw08.SpacePlays', WHERE WHAT IT READS IS OF BULK AT MOST 1048576: true; the input reads as it did. -/
def spacePlaysUptoRow : OpenClaim := { program := "ytlnffcledpccjaa", sum := "0aa99d52ecf40e9a924a32018e4030b5bd74c980ab8b2ed7e6b6f0405be1e569", func := "grommet/grommetlaw08.SpacePlays", spec := "spacePlays", inPlace := ["sync/atomic.AddInt64", "sync/atomic.StoreUint32", "internal/bytealg.MakeNoZero"], unfollowed := true, recurses := true, plainKeys := false, apart := false, narrowed := true }
def SpacePlaysUptoSaid : Prop := spacePlaysUptoRow.holds Try.pinned (OpenSpec.upto spacePlaysSpec)

/-- 'grommetlaw08.SpaceMakes', WHERE WHAT IT READS IS OF BULK AT MOST 1048576: true; the input reads as it did. -/
def spaceMakesUptoRow : OpenClaim := { program := "ytlnffcledpccjaa", sum := "0aa99d52ecf40e9a924a32018e4030b5bd74c980ab8b2ed7e6b6f0405be1e569", func := "grommet/grommetlaw08.SpaceMakes", spec := "spaceMakes", inPlace := ["sync/atomic.AddInt64", "sync/atomic.StoreUint32", "internal/bytealg.MakeNoZero"], unfollowed := true, recurses := true, plainKeys := false, apart := false, narrowed := true }
def SpaceMakesUptoSaid : Prop := spaceMakesUptoRow.holds Try.pinned (OpenSpec.upto spaceMakesSpec)

/-- 'grommetlaw08.SpaceOverlaps', WHERE WHAT IT READS IS OF BULK AT MOST 1048576: true; the input reads as it did. -/
def spaceOverlapsUptoRow : OpenClaim := { program := "ytlnffcledpccjaa", sum := "0aa99d52ecf40e9a924a32018e4030b5bd74c980ab8b2ed7e6b6f0405be1e569", func := "grommet/grommetlaw08.SpaceOverlaps", spec := "spaceOverlaps", inPlace := ["sync/atomic.AddInt64", "sync/atomic.StoreUint32"], unfollowed := true, recurses := true, plainKeys := false, apart := false, narrowed := true }
def SpaceOverlapsUptoSaid : Prop := spaceOverlapsUptoRow.holds Try.pinned (OpenSpec.upto spaceOverlapsSpec)

/-- 'grommetlaw08.SpaceNone', WHERE WHAT IT READS IS OF BULK AT MOST 1048576: true; the input reads as it did. -/
def spaceNoneUptoRow : OpenClaim := { program := "ytlnffcledpccjaa", sum := "0aa99d52ecf40e9a924a32018e4030b5bd74c980ab8b2ed7e6b6f0405be1e569", func := "grommet/grommetlaw08.SpaceNone", spec := "spaceNone", inPlace := ["sync/atomic.AddInt64", "sync/atomic.StoreUint32", "internal/bytealg.MakeNoZero"], unfollowed := true, recurses := true, plainKeys := false, apart := false, narrowed := true }
def SpaceNoneUptoSaid : Prop := spaceNoneUptoRow.holds Try.pinned (OpenSpec.upto spaceNoneSpec)

/-- 'grommetlaw08.SpaceGrows', WHERE WHAT IT READS IS OF BULK AT MOST 1048576: true; the input reads as it did. -/
def spaceGrowsUptoRow : OpenClaim := { program := "ytlnffcledpccjaa", sum := "0aa99d52ecf40e9a924a32018e4030b5bd74c980ab8b2ed7e6b6f0405be1e569", func := "grommet/grommetlaw08.SpaceGrows", spec := "spaceGrows", inPlace := ["sync/atomic.AddInt64", "sync/atomic.StoreUint32"], unfollowed := true, recurses := true, plainKeys := false, apart := false, narrowed := true }
def SpaceGrowsUptoSaid : Prop := spaceGrowsUptoRow.holds Try.pinned (OpenSpec.upto spaceGrowsSpec)

end Rows
end Go.Proofs.Ytlnffcledpccjaa
