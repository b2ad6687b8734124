/-
  No cell of these rows narrows 'for every input' (looked for: loops, veiled, ifaces, maps, wideKeys, modest, calm, conditions, laid).
  DERIVED. THE GIVEN ROWS OF THIS SEAT. 4 by the template 'for every input the law returns true; each argument reads behind the call as it read before'; 0 by the template 'total and deterministic' (their statements: YtkmocjbpinmlaaaTotals.lean).
  GIVEN WITH THE SEED: the statements are not yours to turn. If you find one false, say at which input.
  Laid BY PROGRAM, IN A SANDBOX (cutbox-rows.mjs): the forced cells as the released guide's own fill.sh prints them over the translation 45243a2a64a4b147… (all of the seat's roots in one cut). By AI agents, Wed Nov 11 2026. No macro, syntax, notation, axiom, sorry.
-/
import Derived.Test.YtkmocjbpinmlaaaChecked
import GoSem.Claim
import GoSem.ClaimJoined
import GoSem.ClaimMapViews
import Derived.JoinedTies
import Derived.KernelRfl
namespace Go.Proofs.Ytkmocjbpinmlaaa
/- THE CELL 'sum', in the pinned program and in every row, IS THE sha256 OF THE DUMP (.gsa) THAT YtkmocjbpinmlaaaProg.lean LOADS. Nothing in Lean hashes anything: it is a label: what it is worth is what the hold of that sum in a sandbox is worth. -/
noncomputable def Try.pinned : Pinned := { name := "ytkmocjbpinmlaaa", sum := "45243a2a64a4b147bfc4a949d8d07c0c2b69e9b8b0d8cdaf1525d02a4f1f2b38", checked := Try.checked }
namespace Rows
def none {H : Type} : Left H := { results := [], args := [] }

/-- 'grommetlaw04.ArenaRooms': WHATEVER THE INPUT: true; the input reads as it did. -/
def arenaRoomsSpec : ChangeSpec := { name := "arenaRooms", fn := fun _ => fun
  | [d1, d2] => { results := [.lit (.bool true)], args := [d1, d2] }
  | _ => none }
def arenaRoomsRow : OpenClaim := { program := "ytkmocjbpinmlaaa", sum := "45243a2a64a4b147bfc4a949d8d07c0c2b69e9b8b0d8cdaf1525d02a4f1f2b38", func := "grommet/grommetlaw04.ArenaRooms", spec := "arenaRooms", plainKeys := false, apart := false }
def ArenaRoomsSaid : Prop := arenaRoomsRow.holds Try.pinned (OpenSpec.ofChange arenaRoomsSpec)

/-- ITS FALSE NEIGHBOUR: 'it returns false'. Refute it at one input. -/
def arenaRoomsWrong : ChangeSpec := { name := "arenaRooms", fn := fun _ => fun
  | [d1, d2] => { results := [.lit (.bool false)], args := [d1, d2] }
  | _ => none }
def ArenaRoomsWrongFalsely : Prop := arenaRoomsRow.holds Try.pinned (OpenSpec.ofChange arenaRoomsWrong)

/-- 'grommetlaw07.PagerFrames': WHATEVER THE INPUT: true; the input reads as it did. -/
def pagerFramesSpec : ChangeSpec := { name := "pagerFrames", fn := fun _ => fun
  | [d1, d2] => { results := [.lit (.bool true)], args := [d1, d2] }
  | _ => none }
def pagerFramesRow : OpenClaim := { program := "ytkmocjbpinmlaaa", sum := "45243a2a64a4b147bfc4a949d8d07c0c2b69e9b8b0d8cdaf1525d02a4f1f2b38", func := "grommet/grommetlaw07.PagerFrames", spec := "pagerFrames", inPlace := ["sync/atomic.AddInt64", "sync/atomic.StoreUint32"], unfollowed := true, recurses := true, plainKeys := false, apart := false }
def PagerFramesSaid : Prop := pagerFramesRow.holds Try.pinned (OpenSpec.ofChange pagerFramesSpec)

/-- ITS FALSE NEIGHBOUR: 'it returns false'. Refute it at one input. -/
def pagerFramesWrong : ChangeSpec := { name := "pagerFrames", fn := fun _ => fun
  | [d1, d2] => { results := [.lit (.bool false)], args := [d1, d2] }
  | _ => none }
def PagerFramesWrongFalsely : Prop := pagerFramesRow.holds Try.pinned (OpenSpec.ofChange pagerFramesWrong)

/-- 'grommetlaw07.PagerZeros': WHATEVER THE INPUT: true; the input reads as it did. -/
def pagerZerosSpec : ChangeSpec := { name := "pagerZeros", fn := fun _ => fun
  | [d1, d2] => { results := [.lit (.bool true)], args := [d1, d2] }
  | _ => none }
def pagerZerosRow : OpenClaim := { program := "ytkmocjbpinmlaaa", sum := "45243a2a64a4b147bfc4a949d8d07c0c2b69e9b8b0d8cdaf1525d02a4f1f2b38", func := "grommet/grommetlaw07.PagerZeros", spec := "pagerZeros", inPlace := ["sync/atomic.AddInt64", "sync/atomic.StoreUint32"], unfollowed := true, recurses := true, plainKeys := false, apart := false }
def PagerZerosSaid : Prop := pagerZerosRow.holds Try.pinned (OpenSpec.ofChange pagerZerosSpec)

/-- ITS FALSE NEIGHBOUR: 'it returns false'. Refute it at one input. -/
def pagerZerosWrong : ChangeSpec := { name := "pagerZeros", fn := fun _ => fun
  | [d1, d2] => { results := [.lit (.bool false)], args := [d1, d2] }
  | _ => none }
def PagerZerosWrongFalsely : Prop := pagerZerosRow.holds Try.pinned (OpenSpec.ofChange pagerZerosWrong)

/-- 'grommetlaw07.PagerMems': WHATEVER THE INPUT: true; the input reads as it did. -/
def pagerMemsSpec : ChangeSpec := { name := "pagerMems", fn := fun _ => fun
  | [d1, d2] => { results := [.lit (.bool true)], args := [d1, d2] }
  | _ => none }
def pagerMemsRow : OpenClaim := { program := "ytkmocjbpinmlaaa", sum := "45243a2a64a4b147bfc4a949d8d07c0c2b69e9b8b0d8cdaf1525d02a4f1f2b38", func := "grommet/grommetlaw07.PagerMems", spec := "pagerMems", inPlace := ["sync/atomic.AddInt64", "sync/atomic.StoreUint32"], unfollowed := true, recurses := true, plainKeys := false, apart := false }
def PagerMemsSaid : Prop := pagerMemsRow.holds Try.pinned (OpenSpec.ofChange pagerMemsSpec)

/-- ITS FALSE NEIGHBOUR: 'it returns false'. Refute it at one input. -/
def pagerMemsWrong : ChangeSpec := { name := "pagerMems", fn := fun _ => fun
  | [d1, d2] => { results := [.lit (.bool false)], args := [d1, d2] }
  | _ => none }
def PagerMemsWrongFalsely : Prop := pagerMemsRow.holds Try.pinned (OpenSpec.ofChange pagerMemsWrong)

/- THE SECOND FORM. 'bulk': how many values and letters a reading holds, each counted each time it is reached (what is shared counts as often as it is met; a slice's spare places count too). A statement '..UptoSaid' is the law's where the arguments, and the package variables that the reading takes, are together of bulk at most 1048576: NARROWER than '..Said'. Prove '..Said' where nothing that the law and all that it calls make is longer than what came in: it says more and counts as full. Else prove '..UptoSaid'. A law counts once. -/
mutual
def uptoBulk {H : Type} : DataW H → Nat
  | .lit (.string bytes) => bytes.length + 1
  | .lit _ => 1
  | .nil => 1
  | .ptr d => uptoBulk d + 1
  | .slice elems spare => uptoBulkAll elems + uptoBulkAll spare + 1
  | .agg parts => uptoBulkAll parts + 1
  | .iface _ d => uptoBulk d + 1
  | .map entries => uptoBulkEntries entries + 1
  | .held _ => 1
def uptoBulkAll {H : Type} : List (DataW H) → Nat
  | [] => 0
  | d :: r => uptoBulk d + uptoBulkAll r
def uptoBulkEntries {H : Type} : List (Lit × DataW H) → Nat
  | [] => 0
  | x :: r => uptoBulkEntry x + uptoBulkEntries r
def uptoBulkEntry {H : Type} : Lit × DataW H → Nat
  | (.string bytes, d) => bytes.length + uptoBulk d + 1
  | (_, d) => uptoBulk d + 1
 end
def uptoSmall : (H : Type) → List (DataW H) → Bool := fun _ ds => decide (uptoBulkAll ds ≤ 1048576)
def OpenSpec.upto (s : _root_.Go.ChangeSpec) : _root_.Go.OpenSpec := { _root_.Go.OpenSpec.ofChange s with cond := some uptoSmall }

/-- 'grommetlaw04.ArenaRooms', WHERE WHAT IT READS IS OF BULK AT MOST 1048576: true; the input reads as it did. -/
def arenaRoomsUptoRow : OpenClaim := { program := "ytkmocjbpinmlaaa", sum := "45243a2a64a4b147bfc4a949d8d07c0c2b69e9b8b0d8cdaf1525d02a4f1f2b38", func := "grommet/grommetlaw04.ArenaRooms", spec := "arenaRooms", plainKeys := false, apart := false, narrowed := true }
def ArenaRoomsUptoSaid : Prop := arenaRoomsUptoRow.holds Try.pinned (OpenSpec.upto arenaRoomsSpec)

/-- 'grommetlaw07.PagerFrames', WHERE WHAT IT READS IS OF BULK AT MOST 1048576: true; the input reads as it did. -/
def pagerFramesUptoRow : OpenClaim := { program := "ytkmocjbpinmlaaa", sum := "45243a2a64a4b147bfc4a949d8d07c0c2b69e9b8b0d8cdaf1525d02a4f1f2b38", func := "grommet/grommetlaw07.PagerFrames", spec := "pagerFrames", inPlace := ["sync/atomic.AddInt64", "sync/atomic.StoreUint32"], unfollowed := true, recurses := true, plainKeys := false, apart := false, narrowed := true }
def PagerFramesUptoSaid : Prop := pagerFramesUptoRow.holds Try.pinned (OpenSpec.upto pagerFramesSpec)

/-- 'grommetlaw07.PagerZeros', WHERE WHAT IT READS IS OF BULK AT MOST 1048576: true; the input reads as it did. -/
def pagerZerosUptoRow : OpenClaim := { program := "ytkmocjbpinmlaaa", sum := "45243a2a64a4b147bfc4a949d8d07c0c2b69e9b8b0d8cdaf1525d02a4f1f2b38", func := "grommet/grommetlaw07.PagerZeros", spec := "pagerZeros", inPlace := ["sync/atomic.AddInt64", "sync/atomic.StoreUint32"], unfollowed := true, recurses := true, plainKeys := false, apart := false, narrowed := true }
def PagerZerosUptoSaid : Prop := pagerZerosUptoRow.holds Try.pinned (OpenSpec.upto pagerZerosSpec)

/-- 'grommetlaw07.PagerMems', WHERE WHAT IT READS IS OF BULK AT MOST 1048576: true; the input reads as it did. -/
def pagerMemsUptoRow : OpenClaim := { program := "ytkmocjbpinmlaaa", sum := "45243a2a64a4b147bfc4a949d8d07c0c2b69e9b8b0d8cdaf1525d02a4f1f2b38", func := "grommet/grommetlaw07.PagerMems", spec := "pagerMems", inPlace := ["sync/atomic.AddInt64", "sync/atomic.StoreUint32"], unfollowed := true, recurses := true, plainKeys := false, apart := false, narrowed := true }
def PagerMemsUptoSaid : Prop := pagerMemsUptoRow.holds Try.pinned (OpenSpec.upto pagerMemsSpec)

end Rows
end Go.Proofs.Ytkmocjbpinmlaaa
