/-
  leb.Put and leb.PutSigned: any number s fewest bytes, behind any others.
-/
import Derived.Test.YtggfaalodojjkaaGreatDoorQLi
namespace Go.Proofs.YtggfaalodojjkaaGreatDoor
open Go.RowKit
set_option linter.unusedVariables false
set_option maxHeartbeats 400000 in
set_option maxRecDepth 100000 in
theorem Put_any (A : Option Addr) (n cap : Nat) (l : List Nat) (m : Nat) (w : World) (hb : Byt w A n cap l) (hn1 : n ≤ 1000) (hm : m < 2 ^ 64) :
    Calls Tryz.prog 35 #[.slice A n cap, .int .u64 m] w (PutPost w.heap.size (n + Leb.szU m + 1) (l ++ Leb.enc (Leb.szU m) m) w) := by
  have h9 := Leb.szU_le 9 m (by omega)
  have hs := Lib.hid (size_any m w hm)
  have hp := Lib.hid (put_u64 A n cap l m (Leb.szU m) (((Leb.szU m + 1 : Nat) : Int)) w hb hn1 h9 (by omega) (by omega))
  clear hb hm h9
  generalize Leb.szU m = k at *
  go_enter Tryz.func35, Tryz.ntmps35
  go_wp2_with (first | (go_at_call 61; refine hs.out.mono ?_; rintro e w' ⟨rfl, rfl⟩) | (go_at_call 60; refine hp.out.mono ?_; rintro e w' ⟨g, cp, rfl, hby, hbel⟩; have HBy := Lib.hid hby; have HBl := Lib.hid hbel; clear hby hbel))
  go_ret
  exact ⟨g, cp, rfl, HBy.out, HBl.out⟩
set_option maxHeartbeats 400000 in
set_option maxRecDepth 100000 in
theorem PutS_any (A : Option Addr) (n cap : Nat) (l : List Nat) (m : Int) (w : World) (hb : Byt w A n cap l) (hn1 : n ≤ 1000) (hm : -9223372036854775808 ≤ m) (hm2 : m < 9223372036854775808) :
    Calls Tryz.prog 31 #[.slice A n cap, .int .i64 m] w (PutPost w.heap.size (n + Leb.szS m + 1) (l ++ Leb.enc (Leb.szS m) m) w) := by
  have h9 := Leb.szS_le 9 m (by omega) (by omega)
  have hs := Lib.hid (sizeS_any m w hm hm2)
  have hp := Lib.hid (put_i64 A n cap l m (Leb.szS m) (((Leb.szS m + 1 : Nat) : Int)) w hb hn1 h9 (by omega))
  clear hb hm hm2 h9
  generalize Leb.szS m = k at *
  go_enter Tryz.func31, Tryz.ntmps31
  go_wp2_with (first | (go_at_call 58; refine hs.out.mono ?_; rintro e w' ⟨rfl, rfl⟩) | (go_at_call 57; refine hp.out.mono ?_; rintro e w' ⟨g, cp, rfl, hby, hbel⟩; have HBy := Lib.hid hby; have HBl := Lib.hid hbel; clear hby hbel))
  go_ret
  exact ⟨g, cp, rfl, HBy.out, HBl.out⟩
theorem byt_nil (w : World) : Byt w none 0 0 [] := ⟨rfl, by simp, Nat.le_refl _, Nat.zero_le _, fun h => by omega⟩
end Go.Proofs.YtggfaalodojjkaaGreatDoor
