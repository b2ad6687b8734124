/-
  The document s own reading of bytes (read): the bits, how many bytes, the error, for every byte slice of at most 1000 bytes.
-/
import Derived.Test.YtggfaalodojjkaaGreatDoorQLd
import Derived.Laws.AppendOwn
import Derived.Laws.OwnMore
import Derived.OwnWalk
namespace Go.Proofs.YtggfaalodojjkaaGreatDoor
open Go.RowKit
set_option linter.unusedVariables false
theorem info4 : (Tryz.prog.info? 4).map (fun i => (i.zero, i.size, i.bytes)) = some (some (.bool false), 1, 1) := by kernel_rfl
theorem info5 : (Tryz.prog.info? 5).map (fun i => (i.zero, i.size, i.bytes)) = some (some (.int .u8 0), 1, 1) := by kernel_rfl
def BL (l : List Nat) (j : Nat) : List Value := (List.range j).map fun i => Value.bool (Leb.bit l i)
theorem BL_succ (l : List Nat) (j : Nat) : BL l (j + 1) = BL l j ++ [Value.bool (Leb.bit l j)] := by
  unfold BL; rw [List.range_succ, List.map_append]; rfl
def ReadPost (B : Nat) (l : List Nat) (r : Nat × Nat) (w : World) (e : Ending) (w' : World) : Prop :=
  ∃ v, e = .returned (.tuple #[v, .int .i64 r.1, .int .i64 r.2]) ∧ (r.2 = 0 → w'.ownsRow B 4 1 v (7 * r.1) (BL l (7 * r.1))) ∧ Below B w w'
theorem bit_tm (c k : Nat) : ((c : Int) / 2 ^ k).tmod 2 = (c : Int) / 2 ^ k % 2 :=
  Int.tmod_eq_emod_of_nonneg (by rw [Leb.ipow_cast]; exact Int.natCast_nonneg (c / 2 ^ k))
theorem bit_eq (l : List Nat) (i k : Nat) (hk : k < 7) : ((((l.getD i 0 : Nat) : Int) / 2 ^ k).tmod 2 == 1) = Leb.bit l (7 * i + k) := by
  rw [bit_tm]
  have e : ((l.getD i 0 : Nat) : Int) / 2 ^ k % 2 = ((l.getD i 0 / 2 ^ k % 2 : Nat) : Int) := by simp
  have e1 : (7 * i + k) / 7 = i := by omega
  have e2 : (7 * i + k) % 7 = k := by omega
  rw [e]
  have := dec_beq (l.getD i 0 / 2 ^ k % 2) 1
  rw [show ((1 : Nat) : Int) = 1 from rfl] at this
  rw [this]
  unfold Leb.bit
  rw [e1, e2]
theorem Byt.below {w w' : World} {A : Option Addr} {n cap B : Nat} {l : List Nat} (h : Byt w A n cap l) (hb : Below w.heap.size w w') : Byt w' A n cap l := by
  obtain ⟨hl, hx, hn, hcap, hc⟩ := h
  refine ⟨hl, hx, hn, hcap, fun h0 => ?_⟩
  obtain ⟨b, off, rfl, hbl, hcell⟩ := hc h0
  exact ⟨b, off, rfl, Nat.lt_of_lt_of_le hbl hb.size, fun j hj => (hb.cell (p := ⟨b, off + j, none⟩) hbl).trans (hcell j hj)⟩
set_option maxHeartbeats 400000 in
set_option maxRecDepth 100000 in
theorem read_any (A : Option Addr) (n cap : Nat) (l : List Nat) (bits : Int) (w : World) (hb : Byt w A n cap l) (h1 : 1 ≤ bits) (h2 : bits ≤ 64) (hn1 : n ≤ 1000) :
    Calls Tryz.prog 75 #[.slice A n cap, .int .i64 bits] w (ReadPost w.heap.size l (Leb.rdE bits.toNat l 0) w) := by
  obtain ⟨i0, hi, hz0, hz1, hz2⟩ := info_parts info4
  have HB := Lib.hid hb
  have hn : n ≤ cap := hb.2.2.1
  have hlen := Lib.hid hb.1
  clear hb
  go_enter Tryz.func75, Tryz.ntmps75
  go_wp2
  go_loopw [7, 8] (fun v i wr => ∃ k : Nat, k ≤ n ∧ i = .int .i64 k ∧ Hid (Leb.rdE bits.toNat l 0 = Leb.rdE bits.toNat (l.drop k) k) ∧ wr.ownsRow w.heap.size 4 1 v (7 * k) (BL l (7 * k)) ∧ Below w.heap.size w wr) (fun _ i _ => n - (intOf i).toNat)
  case atStart => exact ⟨0, Nat.zero_le _, rfl, Lib.hid rfl, World.ownsRow_nil _ _ _ _, Below.refl _ _⟩
  case round =>
    obtain ⟨k, hk, rfl, HR, hown, hbel⟩ := hrel
    obtain ⟨wo, rfl⟩ : ∃ wo : World, wo = wr := ⟨_, rfl⟩
    by_cases hlt : k < n
    · obtain ⟨b, off, rfl, hbb, hcell⟩ := HB.out.2.2.2.2 (by omega)
      have hck0 := hcell k hlt
      have hcx := getD_lt l k HB.out.2.1
      have hbit := Lib.hid (bit_eq l k)
      have hd := drop_cons l k (by have := hlen.out; omega)
      clear hcell
      obtain ⟨c, hc⟩ : ∃ c, c = l.getD k 0 := ⟨_, rfl⟩
      rw [← hc] at hck0 hcx hd hbit
      clear hc
      have hD := Lib.hid hd
      clear hd
      have HBel := Lib.hid hbel
      have HO := Lib.hid hown
      clear hbel hown
      go_wp2
      go_loopw [7, 9] (fun v j wr => ∃ m : Nat, m ≤ 7 ∧ j = .int .i64 m ∧ Hid (wr.ownsRow w.heap.size 4 1 v (7 * k + m) (BL l (7 * k + m))) ∧ Hid (Below w.heap.size w wr)) (fun _ j _ => 7 - (intOf j).toNat)
      case atStart => exact ⟨0, by omega, rfl, HO, HBel⟩
      case round =>
        obtain ⟨m, hm, rfl, HO1, HBe1⟩ := hrel
        have hck : wr.cell? ⟨b, off + k, none⟩ = some (.int .u8 c) := (HBe1.out.cell (p := ⟨b, off + k, none⟩) hbb).trans hck0
        clear hck0
        by_cases hm7 : m < 7
        · have HS : Hid (BL l (7 * k + (m + 1)) = BL l (7 * k + m) ++ [Value.bool (((c : Int) / 2 ^ m).tmod 2 == 1)]) := Lib.hid (by rw [hbit.out m hm7, ← BL_succ]; rfl)
          go_wp2_with (at_builtin; refine wpList_append_own _ rfl (.tmp 26) (.tmp 35) 134 rfl w.heap.size 4 i0 _ 1 1 Tryz.underlying134 hi hz0 hz1 hz2 rfl (by decide) _ (7 * k + m) _ rfl (HO1.out.alloc _) ⟨wr.heap.size, 0, none⟩ 1 1 [Value.bool (((c : Int) / 2 ^ m).tmod 2 == 1)] rfl rfl (cell_new _ _ _) ?c2 ?c3 ?c4 ?c5 ?_)
          case c2 => intro u hu; simp at hu; subst hu; rfl
          case c3 => unfold maxLen; omega
          case c4 => omega
          case c5 => have := HBe1.out.size; simp; omega
          intro v1 w1 hown1 hg1 _
          have HO2 : Hid (w1.ownsRow w.heap.size 4 1 v1 (7 * k + (m + 1)) (BL l (7 * k + (m + 1)))) := Lib.hid (by rw [HS.out]; exact hown1)
          have HB2 : Hid (Below w.heap.size w w1) := Lib.hid (own_below HBe1.out HBe1.out.size HO1.out hg1)
          clear hown1 hg1 HS hck
          go_wp2
          go_roundw
          case rel => exact ⟨m + 1, by omega, by go_num, HO2, HB2⟩
          case measure => simp [intOf]; omega
        · obtain rfl : m = 7 := by omega
          by_cases hB : 128 ≤ c
          · by_cases hA : bits ≤ 7 * ((k : Int) + 1)
            · have HZ : Hid (Leb.rdE bits.toNat l 0 = (0, 4)) := Lib.hid (by rw [HR.out, hD.out, Leb.rdE, if_pos (by omega)])
              go_wp2
              go_ret3
              exact ⟨_, by rw [HZ.out]; rfl, fun h => by rw [HZ.out] at h; simp at h, HBe1.out⟩
            · have HZ : Hid (Leb.rdE bits.toNat l 0 = Leb.rdE bits.toNat (l.drop (k + 1)) (k + 1)) := Lib.hid (by rw [HR.out, hD.out, Leb.rdE, if_neg (by omega), if_neg (by omega)])
              go_wp2
              go_roundw
              case rel => exact ⟨k + 1, by omega, by go_num, HZ, HO1.out, HBe1.out⟩
              case measure => simp [intOf]; omega
          · have HZ : Hid (Leb.rdE bits.toNat l 0 = (k + 1, 0)) := Lib.hid (by rw [HR.out, hD.out, Leb.rdE, if_neg (by omega), if_pos (by omega)])
            go_wp2
            all_goals go_ret3
            all_goals exact ⟨_, by rw [HZ.out]; rfl, fun _ => by rw [HZ.out]; exact HO1.out, HBe1.out⟩
    · have HZ : Hid (Leb.rdE bits.toNat l 0 = (0, 3)) := Lib.hid (by
        rw [HR.out, List.drop_eq_nil_of_le (by have := hlen.out; omega)]; rfl)
      have HBe := Lib.hid hbel
      clear hbel hown
      go_wp2
      go_ret3
      exact ⟨_, by rw [HZ.out]; rfl, fun h => by rw [HZ.out] at h; simp at h, HBe.out⟩
end Go.Proofs.YtggfaalodojjkaaGreatDoor
