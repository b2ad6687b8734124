/-
  The document's own rows of bits: each the other way (not), added (add): for WordBinary.
-/
import Derived.Test.YtmbnaejoiglckaaRc
namespace Go.Proofs.Ytmbnaejoiglckaa
open Go.RowKit
set_option linter.unusedVariables false
set_option maxHeartbeats 1000000 in
set_option maxRecDepth 100000 in
theorem Not_any (g0 cp0 n : Nat) (f : Nat → Bool) (w : World) (hn : 1 ≤ n) (hn2 : n ≤ 65) (hcp : n ≤ cp0) (hcp2 : cp0 ≤ 9223372036854775807) (hb : Bo w g0 n f) :
    Calls Try.prog 35 #[.slice (some ⟨g0, 0, none⟩) n cp0] w (LPost w.heap.size n (fun i => !f i) w) := by
  obtain ⟨i0, hi, hz0, hz1, hz2⟩ := info4_parts
  have HB := Lib.hid hb
  clear hb
  go_enter Try.func35, Try.ntmps35
  go_wp2
  go_loopw [3, 4] (fun v3 v4 wr => ∃ k : Nat, k ≤ n ∧ v4 = .int .i64 k ∧ Hid (wr.ownsRow w.heap.size 4 1 v3 k (BL (fun i => !f i) k)) ∧ Hid (Below w.heap.size w wr)) (fun _ v4 _ => n - (intOf v4).toNat)
  case atStart => exact ⟨0, Nat.zero_le _, rfl, Lib.hid (World.ownsRow_nil _ _ _ _), Lib.hid (Below.refl _ _)⟩
  case round =>
    obtain ⟨k, hk, rfl, HO, HBl⟩ := hrel
    by_cases hlt : k < n
    · have hc := (HB.out.below HBl.out HB.out.1).2 k hlt
      have hS := BL_succ (fun i => !f i) k
      obtain ⟨x, ex⟩ : ∃ b, b = f k := ⟨_, rfl⟩
      simp only [← ex] at hS
      rw [← ex] at hc
      have HS := Lib.hid hS
      clear ex hS
      go_wp2_with (at_builtin; refine wpList_append_own _ rfl (.tmp 11) (.tmp 17) 41 rfl w.heap.size 4 i0 _ 1 1 Try.underlying41 hi hz0 hz1 hz2 rfl (by decide) _ k _ rfl (HO.out.alloc _) ⟨wr.heap.size, 0, none⟩ 1 1 [Value.bool (!x)] rfl rfl (cell_new _ _ _) ?c2 ?c3 ?c4 ?c5 ?_)
      case c2 => intro u hu; simp at hu; subst hu; rfl
      case c3 => unfold maxLen; omega
      case c4 => omega
      case c5 => have := HBl.out.size; simp; omega
      intro v1 w3 hown1 hg1 _
      have HO2 : Hid (w3.ownsRow w.heap.size 4 1 v1 (k + 1) (BL (fun i => !f i) (k + 1))) := Lib.hid (by rw [HS.out]; exact hown1)
      have HB2 : Hid (Below w.heap.size w w3) := Lib.hid (own_below HBl.out HBl.out.size HO.out hg1)
      clear hown1 hg1 HS
      go_wp2
      go_roundw
      case rel => exact ⟨k + 1, by omega, by go_num, HO2, HB2⟩
      case measure => simp [intOf]; omega
    · obtain rfl : n = k := by omega
      go_wp2
      go_ret
      obtain ⟨g, cp, hv, h1, h2, hb, hg⟩ := bo_of_own HO.out (by omega)
      exact ⟨g, cp, by rw [hv]; rfl, h1, by unfold maxLen at h2; omega, hb, hg, HBl.out⟩
/-- what is carried into place k -/
def cy (f g : Nat → Bool) (c : Bool) : Nat → Bool
  | 0 => c
  | k + 1 => (f k && g k) || (f k && cy f g c k) || (g k && cy f g c k)
def sm (f g : Nat → Bool) (c : Bool) (k : Nat) : Bool := (f k != g k) != cy f g c k
theorem sm_val (f g : Nat → Bool) (c : Bool) : ∀ n, vl (sm f g c) 0 n + 2 ^ n * (cy f g c n).toNat = vl f 0 n + vl g 0 n + c.toNat
  | 0 => by simp [vl, cy]
  | n + 1 => by
    have ih := sm_val f g c n
    rw [vl_top, vl_top, vl_top, Nat.zero_add, Nat.pow_succ]
    have hb : (sm f g c n).toNat + 2 * (cy f g c (n + 1)).toNat = (f n).toNat + (g n).toNat + (cy f g c n).toNat := by
      unfold sm
      rw [show cy f g c (n + 1) = ((f n && g n) || (f n && cy f g c n) || (g n && cy f g c n)) from rfl]
      cases f n <;> cases g n <;> cases cy f g c n <;> rfl
    have := congrArg (fun z => 2 ^ n * z) hb
    simp only [Nat.mul_add] at this
    rw [Nat.mul_assoc]
    omega
set_option maxHeartbeats 4000000 in
set_option maxRecDepth 100000 in
theorem Add_any (g1 c1 g2 c2 n : Nat) (f1 f2 : Nat → Bool) (c : Bool) (w : World) (hn : 1 ≤ n) (hn2 : n ≤ 65) (hc1 : n ≤ c1) (hc2 : n ≤ c2) (hd1 : c1 ≤ 9223372036854775807) (hd2 : c2 ≤ 9223372036854775807) (h1 : Bo w g1 n f1) (h2 : Bo w g2 n f2) :
    Calls Try.prog 21 #[.slice (some ⟨g1, 0, none⟩) n c1, .slice (some ⟨g2, 0, none⟩) n c2, .bool c] w (LPost w.heap.size n (sm f1 f2 c) w) := by
  obtain ⟨i0, hi, hz0, hz1, hz2⟩ := info4_parts
  have H1 := Lib.hid h1
  have H2 := Lib.hid h2
  clear h1 h2
  go_enter Try.func21, Try.ntmps21
  go_wp2
  go_loopw [2, 7, 8, 9] (fun v2 v7 v8 v9 wr => ∃ (k : Nat) (q : Bool), k ≤ n ∧ v8 = .int .i64 k ∧ v2 = .bool q ∧ Hid (q = cy f1 f2 c k) ∧ Hid (wr.ownsRow w.heap.size 4 1 v7 k (BL (sm f1 f2 c) k)) ∧ Hid (Below w.heap.size w wr)) (fun _ _ v8 _ _ => n - (intOf v8).toNat)
  case atStart => exact ⟨0, c, Nat.zero_le _, rfl, rfl, Lib.hid rfl, Lib.hid (World.ownsRow_nil _ _ _ _), Lib.hid (Below.refl _ _)⟩
  case round =>
    obtain ⟨k, q, hk, rfl, rfl, HQ, HO, HBl⟩ := hrel
    by_cases hlt : k < n
    · have d1 := (H1.out.below HBl.out H1.out.1).2 k hlt
      have d2 := (H2.out.below HBl.out H2.out.1).2 k hlt
      have hS := BL_succ (sm f1 f2 c) k
      have hV : sm f1 f2 c k = ((f1 k != f2 k) != q) := by rw [HQ.out]; rfl
      have hC : cy f1 f2 c (k + 1) = ((f1 k && f2 k) || (f1 k && q) || (f2 k && q)) := by rw [HQ.out]; rfl
      rw [hV] at hS
      obtain ⟨x, ex⟩ : ∃ b, b = f1 k := ⟨_, rfl⟩
      obtain ⟨y, ey⟩ : ∃ b, b = f2 k := ⟨_, rfl⟩
      rw [← ex] at d1 hS hC
      rw [← ey] at d2 hS hC
      have HS := Lib.hid hS
      have HC := Lib.hid hC
      clear ex ey hS hV hC
      cases x <;> cases y <;> cases q
      all_goals
        go_wp2_with (at_builtin; refine wpList_append_own _ rfl (.tmp 31) (.tmp 35) 41 rfl w.heap.size 4 i0 _ 1 1 Try.underlying41 hi hz0 hz1 hz2 rfl (by decide) _ k _ rfl (HO.out.alloc _) ⟨wr.heap.size, 0, none⟩ 1 1 [Value.bool _] rfl rfl (cell_new _ _ _) ?c2 ?c3 ?c4 ?c5 ?_)
        case c2 => intro u hu; simp at hu; subst hu; rfl
        case c3 => unfold maxLen; omega
        case c4 => omega
        case c5 => have := HBl.out.size; simp; omega
        intro v1 w3 hown1 hg1 _
        have HO2 : Hid (w3.ownsRow w.heap.size 4 1 v1 (k + 1) (BL (sm f1 f2 c) (k + 1))) := Lib.hid (by rw [HS.out]; exact hown1)
        have HB2 : Hid (Below w.heap.size w w3) := Lib.hid (own_below HBl.out HBl.out.size HO.out hg1)
        clear hown1 hg1 HS
        go_wp2
        go_roundw
        case rel => exact ⟨k + 1, _, by omega, by go_num, rfl, Lib.hid (by rw [HC.out]; rfl), HO2, HB2⟩
        case measure => simp [intOf]; omega
    · obtain rfl : n = k := by omega
      go_wp2
      go_ret
      obtain ⟨g, cp, hv, h1, h2, hb, hg⟩ := bo_of_own HO.out (by omega)
      exact ⟨g, cp, by rw [hv]; rfl, h1, by unfold maxLen at h2; omega, hb, hg, HBl.out⟩
end Go.Proofs.Ytmbnaejoiglckaa
