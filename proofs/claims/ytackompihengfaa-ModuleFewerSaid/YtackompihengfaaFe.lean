/-
  The law's List: a row of instructions copied.
-/
import Derived.Test.YtackompihengfaaFd
namespace Go.Proofs.Ytackompihengfaa
open Go.RowKit
set_option linter.unusedVariables false
set_option linter.unusedSimpArgs false
theorem own_base {B B' E size : Nat} {w : World} {v : Value} {n : Nat} {xs : List Value} (h : w.ownsRow B E size v n xs) (hB : B' ≤ B) : w.ownsRow B' E size v n xs :=
  ⟨h.1, h.2.imp id fun ⟨g, cap, cur, e, h1, h2⟩ => ⟨g, cap, cur, e, Nat.le_trans hB h1, h2⟩⟩
theorem own_kept {B E size : Nat} {w w' : World} {v : Value} {n : Nat} {xs : List Value} (h : w.ownsRow B E size v n xs) (hb : Below w.heap.size w w') : w'.ownsRow B E size v n xs :=
  own_fr h (Fr.of_below (S := fun _ => False) hb) (fun _ _ e => e)
def rowC (X : Nat → In) (S : Nat → Value) (m : Nat) : List Value := (List.range m).flatMap fun i => I5 (X i) (S i)
theorem rowC_succ (X : Nat → In) (S : Nat → Value) (k : Nat) : rowC X S (k + 1) = rowC X S k ++ I5 (X k) (S k) := by simp [rowC, List.range_succ]
theorem rowC_len (X : Nat → In) (S : Nat → Value) : ∀ k, (rowC X S k).length = k * 5
  | 0 => rfl
  | k + 1 => by rw [rowC_succ, List.length_append, rowC_len X S k]; simp [I5]; omega
theorem rowC_congr {X : Nat → In} {S S' : Nat → Value} : ∀ {k : Nat}, (∀ i, i < k → S i = S' i) → rowC X S k = rowC X S' k
  | 0, _ => rfl
  | k + 1, h => by rw [rowC_succ, rowC_succ, rowC_congr (fun i hi => h i (by omega)), h k (by omega)]
theorem rowC_get (X : Nat → In) (S : Nat → Value) : ∀ (k i q : Nat) (v : Value), i < k → (I5 (X i) (S i))[q]? = some v → (rowC X S k)[i * 5 + q]? = some v
  | k + 1, i, q, v, hi, hv => by
    have hq : q < 5 := by
      have := (List.getElem?_eq_some_iff.1 hv).1
      simpa [I5] using this
    rw [rowC_succ]
    by_cases e : i = k
    · subst e
      rw [List.getElem?_append_right (by rw [rowC_len]; omega), rowC_len, show i * 5 + q - i * 5 = q from by omega]
      exact hv
    · rw [List.getElem?_append_left (by rw [rowC_len]; omega)]
      exact rowC_get X S k i q v (by omega) hv
/-- a row of instructions that the call has made -/
def Made (w : World) (B : Nat) (v : Value) (m : Nat) (X : Nat → In) (S : Nat → Value) : Prop :=
  w.ownsRow B 104 5 v m (rowC X S m) ∧ ∀ i, i < m → w.ownsRow B 77 1 (S i) (X i).l.length ((X i).l.map U64)
theorem Made.fr {S0 : Nat → Prop} {w w' : World} {B : Nat} {v : Value} {m : Nat} {X : Nat → In} {S : Nat → Value} (h : Made w B v m X S) (hf : Fr S0 w w') (hne : ∀ k cs, S0 k → ¬ Blk w k 104 cs ∧ ¬ Blk w k 77 cs) : Made w' B v m X S := by
  refine ⟨own_fr h.1 hf (fun k hk hs => ?_), fun i hi => own_fr (h.2 i hi) hf (fun k hk hs => ?_)⟩
  · obtain ⟨cs, hc⟩ := own_ty h.1 hk; exact (hne k cs hs).1 hc
  · obtain ⟨cs, hc⟩ := own_ty (h.2 i hi) hk; exact (hne k cs hs).2 hc
theorem Made.kept {w w' : World} {B : Nat} {v : Value} {m : Nat} {X : Nat → In} {S : Nat → Value} (h : Made w B v m X S) (hb : Below w.heap.size w w') : Made w' B v m X S :=
  h.fr (Fr.of_below (S := fun _ => False) hb) (fun _ _ e => e.elim)
/-- one more -/
theorem Made.snoc {w1 w6 : World} {B : Nat} {v v6 : Value} {k : Nat} {X : Nat → In} {S : Nat → Value} {s : Value} (h : Made w1 B v k X S) (hs : w1.ownsRow B 77 1 s (X k).l.length ((X k).l.map U64))
    (hf : Fr (fun g => v.ownBlock = some g) w1 w6) (ho : w6.ownsRow B 104 5 v6 (k + 1) (rowC X S k ++ I5 (X k) s)) : Made w6 B v6 (k + 1) X (fun i => if i = k then s else S i) := by
  have hne : ∀ g, v.ownBlock = some g → ∀ (u : Value) (n : Nat) xs, w1.ownsRow B 77 1 u n xs → u.ownBlock ≠ some g := fun g hg u n xs hu e => by
    obtain ⟨cs, hc⟩ := own_ty h.1 hg
    obtain ⟨cs2, hc2⟩ := own_ty hu e
    exact hc.ne_ hc2 (by decide) rfl
  refine ⟨?_, fun i hi => ?_⟩
  · rw [rowC_succ, rowC_congr (S' := S) (fun i hi => if_neg (by omega)), if_pos rfl]
    exact ho
  · by_cases e : i = k
    · subst e
      show w6.ownsRow B 77 1 (if i = i then s else S i) _ _
      rw [if_pos rfl]
      exact own_fr hs hf (fun g hg q => hne g q _ _ _ hs hg)
    · show w6.ownsRow B 77 1 (if i = k then s else S i) _ _
      rw [if_neg e]
      exact own_fr (h.2 i (by omega)) hf (fun g hg q => hne g q _ _ _ (h.2 i (by omega)) hg)
/-- what List answers -/
def LsP (m : Nat) (X : Nat → In) (w : World) (e : Ending) (w' : World) : Prop := Below w.heap.size w w' ∧ ∃ v S, e = .returned v ∧ Made w' w.heap.size v m X S
theorem src1 (w : World) (cs : List Value) (t : Nat) : ∀ j u, cs[j]? = some u → (w.alloc (.cells cs.toArray t)).cell? ((⟨w.heap.size, 0, none⟩ : Addr).add j) = some u := by
  intro j u hu
  have e : (⟨w.heap.size, 0, none⟩ : Addr).add j = ⟨w.heap.size, j, none⟩ := by cases j <;> simp [Addr.add]
  rw [e, (Blk.new w t cs.toArray).cell j, List.getElem?_toArray]
  exact hu
theorem made_more {w w1 w6 : World} {v v6 : Value} {k : Nat} {X : Nat → In} {S : Nat → Value} {cd a bb al : Int} {l : List Int} {s : Value} (hx : X k = ⟨cd, a, bb, al, l⟩) (hb : Below w.heap.size w w1) (hm : Made w1 w.heap.size v k X S)
    (ho : w1.ownsRow w.heap.size 77 1 s l.length (l.map U64)) (h6 : w6.ownsRow w.heap.size 104 5 v6 (k + 1) (rowC X S k ++ [.int .i64 cd, .int .u64 a, .int .u64 bb, .int .i64 al, s]))
    (hg : (w1.alloc (.cells #[.int .i64 cd, .int .u64 a, .int .u64 bb, .int .i64 al, s] 104)).grownBy w6 v.ownBlock) :
    Below w.heap.size w w6 ∧ Made w6 w.heap.size v6 (k + 1) X (fun i => if i = k then s else S i) := by
  have hf6 : Fr (fun g => v.ownBlock = some g) w1 w6 := ((Fr.refl _ w1).alloc _).trans (Fr.grownV hg)
  refine ⟨hf6.below hb hb.size (fun q hq => (hm.1.lt q hq).1), hm.snoc (by rw [hx]; exact ho) hf6 (by rw [hx]; exact h6)⟩
theorem info104 : (Try.prog.info? 104).map (fun i => (i.zero, i.size, i.bytes)) = some (some (.agg #[.int .i64 0, .int .u64 0, .int .u64 0, .int .i64 0, .slice none 0 0]), 5, 56) := by kernel_rfl
set_option maxHeartbeats 4000000 in
set_option maxRecDepth 100000 in
theorem List_ok (A : Option Addr) (m cap : Nat) (X : Nat → In) (w : World) (hm : m ≤ 1000) (hl : ∀ i, i < m → (X i).l.length ≤ 1000) (hr : IRow w A m cap X) :
    Calls Try.prog 48 #[.slice A m cap] w (LsP m X w) := by
  obtain ⟨i0, hi, hz0, hz1, hz2⟩ := info_parts info104
  obtain ⟨hmc, hc, hX⟩ := hr
  unfold maxLen at hc
  have HX := Lib.hid hX
  have HL := Lib.hid hl
  clear hX hl
  go_enter Try.func48, Try.ntmps48
  go_wp2
  go_loopw [3, 4] (fun v3 v4 wr => ∃ (k : Nat) (S : Nat → Value), k ≤ m ∧ v4 = .int .i64 k ∧ Hid (Made wr w.heap.size v3 k X S) ∧ Hid (Below w.heap.size w wr)) (fun _ v4 _ => m - (intOf v4).toNat)
  case atStart => exact ⟨0, fun _ => undef, Nat.zero_le _, rfl, Lib.hid ⟨World.ownsRow_nil _ _ _ _, fun i hi => by omega⟩, Lib.hid (Below.refl _ _)⟩
  case round =>
    obtain ⟨k, S, hk, rfl, HM, HB⟩ := hrel
    by_cases hlt : k < m
    · obtain ⟨b, off, rfl, hb, hat⟩ := HX.out (by omega)
      obtain ⟨B, cp, c0, c1, c2, c3, c4, hs⟩ := hat k hlt
      have c0 := (HB.out.cell (p := ⟨b, off + k * 5, none⟩) hb).trans c0
      have c1 := (HB.out.cell (p := ⟨b, off + k * 5 + 1, none⟩) hb).trans c1
      have c2 := (HB.out.cell (p := ⟨b, off + k * 5 + 2, none⟩) hb).trans c2
      have c3 := (HB.out.cell (p := ⟨b, off + k * 5 + 3, none⟩) hb).trans c3
      have c4 := (HB.out.cell (p := ⟨b, off + k * 5 + 4, none⟩) hb).trans c4
      have hln := HL.out k hlt
      have HT : Hid (Calls Try.prog 84 #[.agg #[.int .i64 (X k).cd, .int .u64 (X k).a, .int .u64 (X k).b, .int .i64 (X k).al, .slice B (X k).l.length cp]] wr (ToP (X k) wr)) := Lib.hid (To_ok (X k) B cp wr (hs.below HB.out) (by omega))
      have HE := Lib.hid (Eq.refl (X k))
      clear hat hs
      generalize hx : X k = x at c0 c1 c2 c3 c4 HT hln
      have HXK := Lib.hid hx
      clear hx
      obtain ⟨cd, a, bb, al, l⟩ := x
      dsimp only at c0 c1 c2 c3 c4 HT hln
      go_wp2_with (first
        | (go_at_call 84; (with_reducible refine HT.out.mono ?_); rintro e w1 ⟨hb1, g, c, he, ho1⟩
           unfold I5 at he
           dsimp only at he ho1
           subst he
           have HB1 : Hid (Below w.heap.size w w1) := Lib.hid (HB.out.trans (hb1.mono HB.out.size))
           have HO1 := Lib.hid (own_base ho1 HB.out.size)
           have HM1 := Lib.hid (HM.out.kept hb1)
           clear hb1 ho1)
        | (at_builtin
           refine wpList_append_own _ rfl (.tmp 11) (.tmp 17) 65 rfl w.heap.size 104 i0 _ 5 56 Try.underlying65 hi hz0 hz1 hz2 rfl (by decide) _ k (rowC X S k) rfl (own_kept HM1.out.1 ((Below.refl _ _).alloc (Nat.le_refl _) _)) ⟨w1.heap.size, 0, none⟩ 1 1 [.int .i64 cd, .int .u64 a, .int .u64 bb, .int .i64 al, .slice (some ⟨g, 0, none⟩) l.length c] rfl rfl (src1 w1 _ 104) (by intro u hu; simp at hu; rcases hu with rfl | rfl | rfl | rfl | rfl <;> rfl) ?a2 ?a3 ?a4 ?_
           case a2 => unfold maxLen; omega
           case a3 => omega
           case a4 => have := HB1.out.size; simp; omega
           intro v6 w6 hown6 hg6 _
           have h6 := made_more HXK.out HB1.out HM1.out HO1.out hown6 hg6
           have HB6 := Lib.hid h6.1
           have HM6 := Lib.hid h6.2
           clear hown6 hg6 h6))
      go_roundw
      case rel => exact ⟨k + 1, _, by omega, by go_num, HM6, HB6⟩
      case measure => simp [intOf]; omega
    · obtain rfl : k = m := by omega
      go_wp2
      go_ret
      exact ⟨HB.out, _, S, rfl, HM.out⟩
end Go.Proofs.Ytackompihengfaa
