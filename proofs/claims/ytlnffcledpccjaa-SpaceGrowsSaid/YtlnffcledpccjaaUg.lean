/-
  Copy; what has been written is read.
-/
import Derived.Test.YtlnffcledpccjaaUe
import Derived.BigQuiet
import Derived.OwnWalk
import Derived.WalkKit
import Derived.ProofKit
import Derived.OpenShut
import Derived.ShutString
import Derived.ChangeOld
import Derived.Below
namespace Go.Proofs.Ytlnffcledpccjaa
set_option linter.unusedVariables false
set_option linter.unusedSimpArgs false
open Go.ChangeShapes Go.WideShapes Go.ChangeAt
open Go.RowKit
section
variable {w0 w : World} {A : Pa} {bb rm gm nf sz cap k o : Nat} {C : Nat × Nat → List Nat} {X : Nat → Prop}
set_option maxHeartbeats 4000000 in
set_option maxRecDepth 100000 in
theorem MCopy_ok (h : S1 w0 A bb rm gm nf sz cap C k o X w) (M M2 num num2 pages pages2 most most2 capped capped2 to at_ n : Nat) (wide wide2 : Bool) (hM : Blk w M 117 (mmC A.p num pages most capped wide)) (hM2 : Blk w M2 117 (mmC A.p num2 pages2 most2 capped2 wide2)) (hX : X M) (hX2 : X M2) (hp : pages ≤ 65536) (hp2 : pages2 ≤ 65536) (hb : to + n ≤ pages * 65536) (hb2 : at_ + n ≤ pages2 * 65536) (hsz : 16 ≤ sz) (hsz2 : sz ≤ 1024) (hnum : num ≤ 9223372036854775807) (hnum2 : num2 ≤ 9223372036854775807) (hn : n ≤ 1048576) (ho : o + 3 * (n / sz + 2) + 3 * (n / sz + 2) < 900000) (hk : k + (n / sz + 2) ≤ cap) :
    Calls Try.prog 33 #[.pointer (some ⟨M, 0, none⟩), .pointer (some ⟨M2, 0, none⟩), .int .u64 to, .int .u64 at_, .int .u64 n] w (StP w0 A bb rm gm nf sz cap (wrm C num sz to (mbs C num2 sz at_ n) n) (k + (n / sz + 2)) (o + 3 * (n / sz + 2) + 3 * (n / sz + 2)) X w) := by
  have hb1' := beyond_ok M A.p num pages most capped to 0 n wide hM hp (by omega) (by omega) (by omega)
  rw [show bey pages to 0 n = false from decide_eq_false (by omega)] at hb1'
  have hb2' := beyond_ok M2 A.p num2 pages2 most2 capped2 at_ 0 n wide2 hM2 hp2 (by omega) (by omega) (by omega)
  rw [show bey pages2 at_ 0 n = false from decide_eq_false (by omega)] at hb2'
  have HB1 : Hid (Calls Try.prog 52 #[.pointer (some ⟨M, 0, none⟩), .int .u64 to, .int .u64 0, .int .u64 n] w fun e w' => e = .returned (.bool false) ∧ w = w') := Lib.hid hb1'
  have HB2 : Hid (Calls Try.prog 52 #[.pointer (some ⟨M2, 0, none⟩), .int .u64 at_, .int .u64 0, .int .u64 n] w fun e w' => e = .returned (.bool false) ∧ w = w') := Lib.hid hb2'
  have HR := Lib.hid (mread_ok h M2 num2 pages2 most2 capped2 at_ n wide2 hM2 hX2 hsz hsz2 hnum2 (by omega) hn (by omega) (by omega))
  have HW := Lib.hid (fun (g : Nat) (w2 : World) (h4 : S1 w0 A bb rm gm nf sz cap C k (o + 3 * (n / sz + 2)) (fun q => X q ∨ q = g) w2) (h3 : Byt w2 (some ⟨g, 0, none⟩) n n (mbs C num2 sz at_ n)) (h5 : KX w0 X w w2) =>
    mwrite_ok h4 M num pages most capped to n n wide (some ⟨g, 0, none⟩) _ (((KX.fr h5).block M hM.lt (fun q => q.2 hX)).trans hM) (.inl hX) h3 (fun g' e _ => .inl (.inr (by simpa using e.symm))) hsz hsz2 hnum (by omega) hn (by omega) hk)
  clear hb1' hb2' h hM hM2
  go_enter Try.func33, Try.ntmps33
  go_wp2_with fail
  with_reducible refine HB1.out.mono ?_
  rintro e w1 ⟨rfl, rfl⟩
  go_wp2_with fail
  with_reducible refine HB2.out.mono ?_
  rintro e w1 ⟨rfl, rfl⟩
  go_wp2_with fail
  with_reducible refine HR.out.mono ?_
  rintro e w2 hP
  unfold MrP at hP
  obtain ⟨g, rfl, h1, h2, h3, h4⟩ := hP
  have HWW := Lib.hid (HW.out g w2 h3 h2 h4)
  have HKX := Lib.hid h4
  clear h1 h2 h3 h4
  go_wp2_with fail
  with_reducible refine HWW.out.mono ?_
  rintro e w3 hP
  unfold MwP at hP
  obtain ⟨rfl, h5, h6⟩ := hP
  have H5 := Lib.hid (And.intro h5 h6)
  clear h5 h6
  go_wp2_with fail
  go_ret2
  exact ⟨rfl, H5.out.1.less (fun q hq => .inl hq), HKX.out.trans (H5.out.2.less (fun q hq => .inl hq))⟩
end
theorem mbs_wrm {C : Nat × Nat → List Nat} {num sz place n : Nat} {l : List Nat} (hC : ∀ x, (C x).length = sz) (hs : 0 < sz) (hl : l.length = n) : mbs (wrm C num sz place l n) num sz place n = l := by
  apply List.ext_getElem
  · simp [mbs, hl]
  · intro i h1 h2
    simp only [mbs, List.getElem_map, List.getElem_range, mby]
    have hi : i < n := by omega
    have e := Nat.div_add_mod (place + i) sz
    have e2 : (place + i) / sz * sz + (place + i) % sz = place + i := by rw [Nat.mul_comm]; exact e
    have hm : (place + i) % sz < sz := Nat.mod_lt _ hs
    rw [List.getD_eq_getElem?_getD, wrm_get (x := (num, (place + i) / sz)) rfl hm]
    simp only [e2]
    rw [if_pos (by omega), show place + i - place = i from by omega]
    simp [List.getD_eq_getElem?_getD, h2]

end Go.Proofs.Ytlnffcledpccjaa
