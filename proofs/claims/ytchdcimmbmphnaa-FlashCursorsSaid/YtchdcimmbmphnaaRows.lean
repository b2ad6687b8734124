/-
  No cell of these rows narrows 'for every input' (looked for: loops, veiled, ifaces, maps, wideKeys, modest, calm, conditions, laid).
  DERIVED. THE GIVEN ROWS OF THIS SEAT. 10 by the template 'for every input the law returns true; each argument reads behind the call as it read before'; 0 by the template 'total and deterministic' (their statements: YtchdcimmbmphnaaTotals.lean).
  GIVEN WITH THE SEED: the statements are not yours to turn. If you find one false, say at which input.
  Laid BY PROGRAM, IN A SANDBOX (cutbox-rows.mjs): the forced cells as the released guide's own fill.sh prints them over the translation b8ba65c3d949109b… (all of the seat's roots in one cut). By AI agents, Wed Nov 11 2026. No macro, syntax, notation, axiom, sorry.
-/
import Derived.Test.YtchdcimmbmphnaaChecked
import GoSem.Claim
import GoSem.ClaimJoined
import GoSem.ClaimMapViews
import Derived.JoinedTies
import Derived.KernelRfl
namespace Go.Proofs.Ytchdcimmbmphnaa
/- THE CELL 'sum', in the pinned program and in every row, IS THE sha256 OF THE DUMP (.gsa) THAT YtchdcimmbmphnaaProg.lean LOADS. Nothing in Lean hashes anything: it is a label: what it is worth is what the hold of that sum in a sandbox is worth. -/
noncomputable def Try.pinned : Pinned := { name := "ytchdcimmbmphnaa", sum := "b8ba65c3d949109b060739becc326918118168c4ac550d542bcb68c78efc6d3a", checked := Try.checked }
namespace Rows
def none {H : Type} : Left H := { results := [], args := [] }

/-- 'grommetlaw01.LebUnsigned': WHATEVER THE INPUT: true; the input reads as it did. -/
def lebUnsignedSpec : ChangeSpec := { name := "lebUnsigned", fn := fun _ => fun
  | [d1, d2] => { results := [.lit (.bool true)], args := [d1, d2] }
  | _ => none }
def lebUnsignedRow : OpenClaim := { program := "ytchdcimmbmphnaa", sum := "b8ba65c3d949109b060739becc326918118168c4ac550d542bcb68c78efc6d3a", func := "grommet/grommetlaw01.LebUnsigned", spec := "lebUnsigned", unfollowed := true, recurses := true, apart := false }
def LebUnsignedSaid : Prop := lebUnsignedRow.holds Try.pinned (OpenSpec.ofChange lebUnsignedSpec)

/-- ITS FALSE NEIGHBOUR: 'it returns false'. Refute it at one input. -/
def lebUnsignedWrong : ChangeSpec := { name := "lebUnsigned", fn := fun _ => fun
  | [d1, d2] => { results := [.lit (.bool false)], args := [d1, d2] }
  | _ => none }
def LebUnsignedWrongFalsely : Prop := lebUnsignedRow.holds Try.pinned (OpenSpec.ofChange lebUnsignedWrong)

/-- 'grommetlaw01.LebSigned': WHATEVER THE INPUT: true; the input reads as it did. -/
def lebSignedSpec : ChangeSpec := { name := "lebSigned", fn := fun _ => fun
  | [d1, d2] => { results := [.lit (.bool true)], args := [d1, d2] }
  | _ => none }
def lebSignedRow : OpenClaim := { program := "ytchdcimmbmphnaa", sum := "b8ba65c3d949109b060739becc326918118168c4ac550d542bcb68c78efc6d3a", func := "grommet/grommetlaw01.LebSigned", spec := "lebSigned", unfollowed := true, recurses := true, apart := false }
def LebSignedSaid : Prop := lebSignedRow.holds Try.pinned (OpenSpec.ofChange lebSignedSpec)

/-- ITS FALSE NEIGHBOUR: 'it returns false'. Refute it at one input. -/
def lebSignedWrong : ChangeSpec := { name := "lebSigned", fn := fun _ => fun
  | [d1, d2] => { results := [.lit (.bool false)], args := [d1, d2] }
  | _ => none }
def LebSignedWrongFalsely : Prop := lebSignedRow.holds Try.pinned (OpenSpec.ofChange lebSignedWrong)

/-- 'grommetlaw01.LebPuts': WHATEVER THE INPUT: true; the input reads as it did. -/
def lebPutsSpec : ChangeSpec := { name := "lebPuts", fn := fun _ => fun
  | [d1, d2, d3] => { results := [.lit (.bool true)], args := [d1, d2, d3] }
  | _ => none }
def lebPutsRow : OpenClaim := { program := "ytchdcimmbmphnaa", sum := "b8ba65c3d949109b060739becc326918118168c4ac550d542bcb68c78efc6d3a", func := "grommet/grommetlaw01.LebPuts", spec := "lebPuts", unfollowed := true, recurses := true, apart := false }
def LebPutsSaid : Prop := lebPutsRow.holds Try.pinned (OpenSpec.ofChange lebPutsSpec)

/-- ITS FALSE NEIGHBOUR: 'it returns false'. Refute it at one input. -/
def lebPutsWrong : ChangeSpec := { name := "lebPuts", fn := fun _ => fun
  | [d1, d2, d3] => { results := [.lit (.bool false)], args := [d1, d2, d3] }
  | _ => none }
def LebPutsWrongFalsely : Prop := lebPutsRow.holds Try.pinned (OpenSpec.ofChange lebPutsWrong)

/-- 'grommetlaw01.LebWidths': WHATEVER THE INPUT: true; the input reads as it did. -/
def lebWidthsSpec : ChangeSpec := { name := "lebWidths", fn := fun _ => fun
  | [d1, d2] => { results := [.lit (.bool true)], args := [d1, d2] }
  | _ => none }
def lebWidthsRow : OpenClaim := { program := "ytchdcimmbmphnaa", sum := "b8ba65c3d949109b060739becc326918118168c4ac550d542bcb68c78efc6d3a", func := "grommet/grommetlaw01.LebWidths", spec := "lebWidths", unfollowed := true, recurses := true, apart := false }
def LebWidthsSaid : Prop := lebWidthsRow.holds Try.pinned (OpenSpec.ofChange lebWidthsSpec)

/-- ITS FALSE NEIGHBOUR: 'it returns false'. Refute it at one input. -/
def lebWidthsWrong : ChangeSpec := { name := "lebWidths", fn := fun _ => fun
  | [d1, d2] => { results := [.lit (.bool false)], args := [d1, d2] }
  | _ => none }
def LebWidthsWrongFalsely : Prop := lebWidthsRow.holds Try.pinned (OpenSpec.ofChange lebWidthsWrong)

/-- 'grommetlaw01.LebApart': WHATEVER THE INPUT: true; the input reads as it did. -/
def lebApartSpec : ChangeSpec := { name := "lebApart", fn := fun _ => fun
  | [d1, d2] => { results := [.lit (.bool true)], args := [d1, d2] }
  | _ => none }
def lebApartRow : OpenClaim := { program := "ytchdcimmbmphnaa", sum := "b8ba65c3d949109b060739becc326918118168c4ac550d542bcb68c78efc6d3a", func := "grommet/grommetlaw01.LebApart", spec := "lebApart", unfollowed := true, recurses := true, apart := false }
def LebApartSaid : Prop := lebApartRow.holds Try.pinned (OpenSpec.ofChange lebApartSpec)

/-- ITS FALSE NEIGHBOUR: 'it returns false'. Refute it at one input. -/
def lebApartWrong : ChangeSpec := { name := "lebApart", fn := fun _ => fun
  | [d1, d2] => { results := [.lit (.bool false)], args := [d1, d2] }
  | _ => none }
def LebApartWrongFalsely : Prop := lebApartRow.holds Try.pinned (OpenSpec.ofChange lebApartWrong)

/-- 'grommetlaw01.LebNeeds': WHATEVER THE INPUT: true; the input reads as it did. -/
def lebNeedsSpec : ChangeSpec := { name := "lebNeeds", fn := fun _ => fun
  | [d1, d2] => { results := [.lit (.bool true)], args := [d1, d2] }
  | _ => none }
def lebNeedsRow : OpenClaim := { program := "ytchdcimmbmphnaa", sum := "b8ba65c3d949109b060739becc326918118168c4ac550d542bcb68c78efc6d3a", func := "grommet/grommetlaw01.LebNeeds", spec := "lebNeeds", unfollowed := true, recurses := true, apart := false }
def LebNeedsSaid : Prop := lebNeedsRow.holds Try.pinned (OpenSpec.ofChange lebNeedsSpec)

/-- ITS FALSE NEIGHBOUR: 'it returns false'. Refute it at one input. -/
def lebNeedsWrong : ChangeSpec := { name := "lebNeeds", fn := fun _ => fun
  | [d1, d2] => { results := [.lit (.bool false)], args := [d1, d2] }
  | _ => none }
def LebNeedsWrongFalsely : Prop := lebNeedsRow.holds Try.pinned (OpenSpec.ofChange lebNeedsWrong)

/-- 'grommetlaw02.FlashCursors': WHATEVER THE INPUT: true; the input reads as it did. -/
def flashCursorsSpec : ChangeSpec := { name := "flashCursors", fn := fun _ => fun
  | [d1, d2, d3, d4] => { results := [.lit (.bool true)], args := [d1, d2, d3, d4] }
  | _ => none }
def flashCursorsRow : OpenClaim := { program := "ytchdcimmbmphnaa", sum := "b8ba65c3d949109b060739becc326918118168c4ac550d542bcb68c78efc6d3a", func := "grommet/grommetlaw02.FlashCursors", spec := "flashCursors", inPlace := ["sync/atomic.AddInt64", "sync/atomic.LoadInt64"], unfollowed := true, recurses := true, apart := false }
def FlashCursorsSaid : Prop := flashCursorsRow.holds Try.pinned (OpenSpec.ofChange flashCursorsSpec)

/-- ITS FALSE NEIGHBOUR: 'it returns false'. Refute it at one input. -/
def flashCursorsWrong : ChangeSpec := { name := "flashCursors", fn := fun _ => fun
  | [d1, d2, d3, d4] => { results := [.lit (.bool false)], args := [d1, d2, d3, d4] }
  | _ => none }
def FlashCursorsWrongFalsely : Prop := flashCursorsRow.holds Try.pinned (OpenSpec.ofChange flashCursorsWrong)

/-- 'grommetlaw02.FlashFails': WHATEVER THE INPUT: true; the input reads as it did. -/
def flashFailsSpec : ChangeSpec := { name := "flashFails", fn := fun _ => fun
  | [d1, d2, d3] => { results := [.lit (.bool true)], args := [d1, d2, d3] }
  | _ => none }
def flashFailsRow : OpenClaim := { program := "ytchdcimmbmphnaa", sum := "b8ba65c3d949109b060739becc326918118168c4ac550d542bcb68c78efc6d3a", func := "grommet/grommetlaw02.FlashFails", spec := "flashFails", inPlace := ["sync/atomic.AddInt64", "sync/atomic.LoadInt64"], unfollowed := true, recurses := true, apart := false }
def FlashFailsSaid : Prop := flashFailsRow.holds Try.pinned (OpenSpec.ofChange flashFailsSpec)

/-- ITS FALSE NEIGHBOUR: 'it returns false'. Refute it at one input. -/
def flashFailsWrong : ChangeSpec := { name := "flashFails", fn := fun _ => fun
  | [d1, d2, d3] => { results := [.lit (.bool false)], args := [d1, d2, d3] }
  | _ => none }
def FlashFailsWrongFalsely : Prop := flashFailsRow.holds Try.pinned (OpenSpec.ofChange flashFailsWrong)

/-- 'grommetlaw02.FlashNone': WHATEVER THE INPUT: true; the input reads as it did. -/
def flashNoneSpec : ChangeSpec := { name := "flashNone", fn := fun _ => fun
  | [d1, d2] => { results := [.lit (.bool true)], args := [d1, d2] }
  | _ => none }
def flashNoneRow : OpenClaim := { program := "ytchdcimmbmphnaa", sum := "b8ba65c3d949109b060739becc326918118168c4ac550d542bcb68c78efc6d3a", func := "grommet/grommetlaw02.FlashNone", spec := "flashNone", inPlace := ["sync/atomic.AddInt64", "sync/atomic.LoadInt64"], unfollowed := true, recurses := true, apart := false }
def FlashNoneSaid : Prop := flashNoneRow.holds Try.pinned (OpenSpec.ofChange flashNoneSpec)

/-- ITS FALSE NEIGHBOUR: 'it returns false'. Refute it at one input. -/
def flashNoneWrong : ChangeSpec := { name := "flashNone", fn := fun _ => fun
  | [d1, d2] => { results := [.lit (.bool false)], args := [d1, d2] }
  | _ => none }
def FlashNoneWrongFalsely : Prop := flashNoneRow.holds Try.pinned (OpenSpec.ofChange flashNoneWrong)

/-- 'grommetlaw02.FlashParts': WHATEVER THE INPUT: true; the input reads as it did. -/
def flashPartsSpec : ChangeSpec := { name := "flashParts", fn := fun _ => fun
  | [d1, d2] => { results := [.lit (.bool true)], args := [d1, d2] }
  | _ => none }
def flashPartsRow : OpenClaim := { program := "ytchdcimmbmphnaa", sum := "b8ba65c3d949109b060739becc326918118168c4ac550d542bcb68c78efc6d3a", func := "grommet/grommetlaw02.FlashParts", spec := "flashParts", inPlace := ["sync/atomic.AddInt64", "sync/atomic.LoadInt64"], apart := false }
def FlashPartsSaid : Prop := flashPartsRow.holds Try.pinned (OpenSpec.ofChange flashPartsSpec)

/-- ITS FALSE NEIGHBOUR: 'it returns false'. Refute it at one input. -/
def flashPartsWrong : ChangeSpec := { name := "flashParts", fn := fun _ => fun
  | [d1, d2] => { results := [.lit (.bool false)], args := [d1, d2] }
  | _ => none }
def FlashPartsWrongFalsely : Prop := flashPartsRow.holds Try.pinned (OpenSpec.ofChange flashPartsWrong)

/- THE SECOND FORM. 'bulk': how many values and letters a reading holds, each counted each time it is reached (what is shared counts as often as it is met; a slice's spare places count too). A statement '..UptoSaid' is the law's where the arguments, and the package variables that the reading takes, are together of bulk at most 1048576: NARROWER than '..Said'. Prove '..Said' where nothing that the law and all that it calls make is longer than what came in: it says more and counts as full. Else prove '..UptoSaid'. A law counts once. -/
mutual
def uptoBulk {H : Type} : DataW H → Nat
  | .lit (.string bytes) => bytes.length + 1
  | .lit _ => 1
  | .nil => 1
  | .ptr d => uptoBulk d + 1
  | .slice elems spare => uptoBulkAll elems + uptoBulkAll spare + 1
  | .agg parts => uptoBulkAll parts + 1
  | .iface _ d => uptoBulk d + 1
  | .map entries => uptoBulkEntries entries + 1
  | .held _ => 1
def uptoBulkAll {H : Type} : List (DataW H) → Nat
  | [] => 0
  | d :: r => uptoBulk d + uptoBulkAll r
def uptoBulkEntries {H : Type} : List (Lit × DataW H) → Nat
  | [] => 0
  | x :: r => uptoBulkEntry x + uptoBulkEntries r
def uptoBulkEntry {H : Type} : Lit × DataW H → Nat
  | (.string bytes, d) => bytes.length + uptoBulk d + 1
  | (_, d) => uptoBulk d + 1
 end
def uptoSmall : (H : Type) → List (DataW H) → Bool := fun _ ds => decide (uptoBulkAll ds ≤ 1048576)
def OpenSpec.upto (s : _root_.Go.ChangeSpec) : _root_.Go.OpenSpec := { _root_.Go.OpenSpec.ofChange s with cond := some uptoSmall }

/-- 'grommetlaw01.LebUnsigned', WHERE WHAT IT READS IS OF BULK AT MOST 1048576: true; the input reads as it did. -/
def lebUnsignedUptoRow : OpenClaim := { program := "ytchdcimmbmphnaa", sum := "b8ba65c3d949109b060739becc326918118168c4ac550d542bcb68c78efc6d3a", func := "grommet/grommetlaw01.LebUnsigned", spec := "lebUnsigned", unfollowed := true, recurses := true, apart := false, narrowed := true }
def LebUnsignedUptoSaid : Prop := lebUnsignedUptoRow.holds Try.pinned (OpenSpec.upto lebUnsignedSpec)

/-- 'grommetlaw01.LebSigned', WHERE WHAT IT READS IS OF BULK AT MOST 1048576: true; the input reads as it did. -/
def lebSignedUptoRow : OpenClaim := { program := "ytchdcimmbmphnaa", sum := "b8ba65c3d949109b060739becc326918118168c4ac550d542bcb68c78efc6d3a", func := "grommet/grommetlaw01.LebSigned", spec := "lebSigned", unfollowed := true, recurses := true, apart := false, narrowed := true }
def LebSignedUptoSaid : Prop := lebSignedUptoRow.holds Try.pinned (OpenSpec.upto lebSignedSpec)

/-- 'grommetlaw01.LebPuts', WHERE WHAT IT READS IS OF BULK AT MOST 1048576: true; the input reads as it did. -/
def lebPutsUptoRow : OpenClaim := { program := "ytchdcimmbmphnaa", sum := "b8ba65c3d949109b060739becc326918118168c4ac550d542bcb68c78efc6d3a", func := "grommet/grommetlaw01.LebPuts", spec := "lebPuts", unfollowed := true, recurses := true, apart := false, narrowed := true }
def LebPutsUptoSaid : Prop := lebPutsUptoRow.holds Try.pinned (OpenSpec.upto lebPutsSpec)

/-- 'grommetlaw01.LebWidths', WHERE WHAT IT READS IS OF BULK AT MOST 1048576: true; the input reads as it did. -/
def lebWidthsUptoRow : OpenClaim := { program := "ytchdcimmbmphnaa", sum := "b8ba65c3d949109b060739becc326918118168c4ac550d542bcb68c78efc6d3a", func := "grommet/grommetlaw01.LebWidths", spec := "lebWidths", unfollowed := true, recurses := true, apart := false, narrowed := true }
def LebWidthsUptoSaid : Prop := lebWidthsUptoRow.holds Try.pinned (OpenSpec.upto lebWidthsSpec)

/-- 'grommetlaw01.LebApart', WHERE WHAT IT READS IS OF BULK AT MOST 1048576: true; the input reads as it did. -/
def lebApartUptoRow : OpenClaim := { program := "ytchdcimmbmphnaa", sum := "b8ba65c3d949109b060739becc326918118168c4ac550d542bcb68c78efc6d3a", func := "grommet/grommetlaw01.LebApart", spec := "lebApart", unfollowed := true, recurses := true, apart := false, narrowed := true }
def LebApartUptoSaid : Prop := lebApartUptoRow.holds Try.pinned (OpenSpec.upto lebApartSpec)

/-- 'grommetlaw01.LebNeeds', WHERE WHAT IT READS IS OF BULK AT MOST 1048576: true; the input reads as it did. -/
def lebNeedsUptoRow : OpenClaim := { program := "ytchdcimmbmphnaa", sum := "b8ba65c3d949109b060739becc326918118168c4ac550d542bcb68c78efc6d3a", func := "grommet/grommetlaw01.LebNeeds", spec := "lebNeeds", unfollowed := true, recurses := true, apart := false, narrowed := true }
def LebNeedsUptoSaid : Prop := lebNeedsUptoRow.holds Try.pinned (OpenSpec.upto lebNeedsSpec)

/-- 'grommetlaw02.FlashCursors', WHERE WHAT IT READS IS OF BULK AT MOST 1048576: true; the input reads as it did. -/
def flashCursorsUptoRow : OpenClaim := { program := "ytchdcimmbmphnaa", sum := "b8ba65c3d949109b060739becc326918118168c4ac550d542bcb68c78efc6d3a", func := "grommet/grommetlaw02.FlashCursors", spec := "flashCursors", inPlace := ["sync/atomic.AddInt64", "sync/atomic.LoadInt64"], unfollowed := true, recurses := true, apart := false, narrowed := true }
def FlashCursorsUptoSaid : Prop := flashCursorsUptoRow.holds Try.pinned (OpenSpec.upto flashCursorsSpec)

/-- 'grommetlaw02.FlashFails', WHERE WHAT IT READS IS OF BULK AT MOST 1048576: true; the input reads as it did. -/
def flashFailsUptoRow : OpenClaim := { program := "ytchdcimmbmphnaa", sum := "b8ba65c3d949109b060739becc326918118168c4ac550d542bcb68c78efc6d3a", func := "grommet/grommetlaw02.FlashFails", spec := "flashFails", inPlace := ["sync/atomic.AddInt64", "sync/atomic.LoadInt64"], unfollowed := true, recurses := true, apart := false, narrowed := true }
def FlashFailsUptoSaid : Prop := flashFailsUptoRow.holds Try.pinned (OpenSpec.upto flashFailsSpec)

/-- 'grommetlaw02.FlashNone', WHERE WHAT IT READS IS OF BULK AT MOST 1048576: true; the input reads as it did. -/
def flashNoneUptoRow : OpenClaim := { program := "ytchdcimmbmphnaa", sum := "b8ba65c3d949109b060739becc326918118168c4ac550d542bcb68c78efc6d3a", func := "grommet/grommetlaw02.FlashNone", spec := "flashNone", inPlace := ["sync/atomic.AddInt64", "sync/atomic.LoadInt64"], unfollowed := true, recurses := true, apart := false, narrowed := true }
def FlashNoneUptoSaid : Prop := flashNoneUptoRow.holds Try.pinned (OpenSpec.upto flashNoneSpec)

/-- 'grommetlaw02.FlashParts', WHERE WHAT IT READS IS OF BULK AT MOST 1048576: true; the input reads as it did. -/
def flashPartsUptoRow : OpenClaim := { program := "ytchdcimmbmphnaa", sum := "b8ba65c3d949109b060739becc326918118168c4ac550d542bcb68c78efc6d3a", func := "grommet/grommetlaw02.FlashParts", spec := "flashParts", inPlace := ["sync/atomic.AddInt64", "sync/atomic.LoadInt64"], apart := false, narrowed := true }
def FlashPartsUptoSaid : Prop := flashPartsUptoRow.holds Try.pinned (OpenSpec.upto flashPartsSpec)

end Rows
end Go.Proofs.Ytchdcimmbmphnaa
