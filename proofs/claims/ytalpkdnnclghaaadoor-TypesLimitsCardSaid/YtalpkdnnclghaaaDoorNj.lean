/-
  types.ParseSig at any text.
-/
import Derived.Test.YtalpkdnnclghaaaDoorNi
import Derived.Test.YtalpkdnnclghaaaDoorSh
namespace Go.Proofs.YtalpkdnnclghaaaDoor
open Go.RowKit Go.ChangeShapes Go.WideShapes Go.ChangeAt
theorem cut_len (s p : List UInt8) : (Lib.cut s p).1.length ≤ s.length ∧ (Lib.cut s p).2.1.length ≤ s.length := by
  unfold Lib.cut
  split <;> (try simp) <;> (try omega)
theorem ParseSig_any (s : List UInt8) (hs : s.length < 4294967281) (m : Int) (w : World) (h5 : 5 < w.heap.size) (hm : w.cell? ⟨5, 0, none⟩ = some (.int .i64 m)) :
    Calls Tryd.prog 16 #[.string ⟨s.toArray⟩] w (SgP (sgL s) w) := by
  have hc := cut_len s [45, 62]
  refine ParseSig_gen s _ _ _ _ _ w (fun W => parse_any _ (by omega) W) (fun W => parse_any _ (by omega) W) (fun W hb => ?_)
  exact Tryd.strings_Cut ⟨s.toArray⟩ ⟨#[45, 62]⟩ m W (by rw [sz_of]; exact hs) ((hb.cell (p := ⟨5, 0, none⟩) h5).trans hm)
/-- the document's example -/
def exB : List UInt8 := [40, 105, 51, 50, 44, 105, 54, 52, 41, 45, 62, 40, 105, 51, 50, 41]
theorem ex_sg : sgL exB = some ([127, 126], [127]) := by kernel_rfl
end Go.Proofs.YtalpkdnnclghaaaDoor
