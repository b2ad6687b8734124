/-
  A stack's Take, Unwind, Close; New.
-/
import Derived.Test.YthfdblpodnodcaaTb
import Derived.Test.YthfdblpodnodcaaAn
namespace Go.Proofs.Ythfdblpodnodcaa
open Go.RowKit
set_option linter.unusedVariables false
theorem info38 : (Try.prog.info? 38).map (fun i => (i.zero, i.size, i.bytes)) = some (some (.int .u64 0), 1, 8) := by kernel_rfl
/-- n words, of which the first k are f's -/
def wRow (n k : Nat) (f : Nat → Nat) : List Value := (List.range n).map fun i => if i < k then U64 (f i) else U64 0
theorem wRow_len (n k : Nat) (f : Nat → Nat) : (wRow n k f).length = n := by simp [wRow]
theorem wRow_get {n k i : Nat} {f : Nat → Nat} (h : i < n) : (wRow n k f)[i]? = some (if i < k then U64 (f i) else U64 0) := by
  unfold wRow
  rw [List.getElem?_map, List.getElem?_range h]
  rfl
theorem wRow_set {n k : Nat} {f : Nat → Nat} (h : k < n) : (wRow n k f).set k (U64 (f k)) = wRow n (k + 1) f := by
  apply List.ext_getElem?
  intro i
  rw [List.getElem?_set]
  by_cases hi : i < n
  · rw [wRow_get hi, wRow_get hi, wRow_len]
    by_cases e : k = i
    · subst e; simp [h]
    · rw [if_neg e]
      by_cases q : i < k
      · rw [if_pos q, if_pos (by omega)]
      · rw [if_neg q, if_neg (by omega)]
  · have e : k ≠ i := by omega
    rw [if_neg e, List.getElem?_eq_none (by rw [wRow_len]; omega), List.getElem?_eq_none (by rw [wRow_len]; omega)]
theorem made38 (n : Nat) (f : Nat → Nat) : madeCells (Value.int .u64 0).cells n = (wRow n 0 f).toArray := by
  apply Array.ext'
  show (madeCells #[Value.int .u64 0] n).toList = _
  rw [toList_madeCells_one]
  apply List.ext_getElem?
  intro i
  by_cases hi : i < n
  · rw [List.getElem?_replicate, if_pos hi]
    show _ = (wRow n 0 f)[i]?
    rw [wRow_get hi, if_neg (Nat.not_lt_zero _)]; rfl
  · rw [List.getElem?_eq_none (by simp; omega)]
    show _ = (wRow n 0 f)[i]?
    rw [List.getElem?_eq_none (by rw [wRow_len]; omega)]
theorem wRow_blk {w : World} {g n k : Nat} {f : Nat → Nat} (h : Blk w g 38 (wRow n k f).toArray) (hk : k < n) : Blk (w.setCell ⟨g, k, none⟩ (U64 (f k))) g 38 (wRow n (k + 1) f).toArray := by
  have := h.set_ k (U64 (f k))
  rw [← wRow_set hk]
  simpa using this
theorem wrd_of_row {w : World} {g n : Nat} {f : Nat → Nat} (h : Blk w g 38 (wRow n n f).toArray) (hf : ∀ i, i < n → f i < 18446744073709551616) (hm : n ≤ maxLen) : Wrd w (some ⟨g, 0, none⟩) n n f := by
  refine ⟨Nat.le_refl _, hm, hf, fun _ => ⟨g, 0, rfl, h.lt, fun j hj => ?_⟩⟩
  rw [Nat.zero_add, h.cell, List.getElem?_toArray, wRow_get hj, if_pos hj]
section
variable {w : World} {a bb rm gm : Nat} {d : Ad} {s at_ cells h : Nat}
theorem SkI.below {w' : World} (H : SkI w a bb rm gm d s at_ cells h) (hb : Below w.heap.size w w') : SkI w' a bb rm gm d s at_ cells h :=
  ⟨H.are.below hb (Nat.le_refl _), H.blk.below hb H.blk.lt, H.hh, H.hc, H.room⟩
theorem SkI.new_ {w' : World} {B g : Nat} (H : SkI w a bb rm gm d s at_ cells h) (hg : ∀ k, arb a bb rm gm k ∨ k = s ∨ d.mine a bb rm gm k → k ≠ g) (hf : Fr (· = g) w w') : SkI w' a bb rm gm d s at_ cells h :=
  ⟨H.are.fr hf (fun k hk => hg k (.inr (.inr hk))), H.blk.fr hf (hg s (.inr (.inl rfl))), H.hh, H.hc, H.room⟩
theorem SkI.store38 {p : Addr} {cs : Array Value} (H : SkI w a bb rm gm d s at_ cells h) (hg : Blk w p.block 38 cs) (u : Value) : SkI (w.setCell p u) a bb rm gm d s at_ cells h := by
  have hf : Fr (· = p.block) w (w.setCell p u) := (Fr.refl (· = p.block) w).set_ rfl u
  refine ⟨H.are.fr hf ?_, H.blk.fr hf (H.blk.ne_ hg (by decide)), H.hh, H.hc, H.room⟩
  rintro k hk rfl
  rcases hk with q | q | q | q | ⟨c, hc, q⟩
  · rw [q] at hg; exact hg.ne_ H.are.blk (by decide) rfl
  · rw [q] at hg; exact hg.ne_ H.are.byt (by decide) rfl
  · obtain ⟨n, _, hi⟩ := H.are.rooms
    rw [q] at hg
    exact hi.ne_ hg rfl
  · obtain ⟨n, _, hi⟩ := H.are.given
    rw [q] at hg
    exact hi.ne_ hg rfl
  · obtain ⟨g', cap, cur, e, hg', _⟩ := H.are.row hc
    rw [e] at q
    simp only [Value.ownBlock, Option.some.injEq] at q
    rw [← q] at hg
    exact hg'.ne_ hg (by decide) rfl
def TkPost (a bb rm gm : Nat) (d : Ad) (s at_ cells h n : Nat) (w : World) (e : Ending) (w' : World) : Prop :=
  ∃ g, e = .returned (.tuple #[.slice (some ⟨g, 0, none⟩) n n, .int .i64 0]) ∧ w.heap.size ≤ g ∧ Blk w' g 38 (wRow n n fun i => wdN d.mem (at_ + 8 * (h + i)) 8).toArray ∧ SkI w' a bb rm gm d s at_ cells h ∧ Fr (· = s) w w'
set_option maxHeartbeats 1000000 in
set_option maxRecDepth 100000 in
theorem Take_ok (n : Nat) (H : SkI w a bb rm gm d s at_ cells (h + n)) : Calls Try.prog 19 #[.pointer (some ⟨s, 0, none⟩), .int .i64 n] w (TkPost a bb rm gm d s at_ cells h n w) := by
  obtain ⟨i0, hi, hz0, hz1, hz2⟩ := info_parts info38
  have HH : Hid (Calls Try.prog 40 #[.pointer (some ⟨s, 0, none⟩), .int .i64 0, .int .i64 n] w fun e w' => e = .returned (.int .i64 0) ∧ w = w') := Lib.hid (has_ok H 0 n (by omega))
  have h1 := H.hc
  have h3 := H.hh
  have HS := Lib.hid H
  obtain ⟨f, ef⟩ : ∃ f : Nat → Nat, f = fun i => wdN d.mem (at_ + 8 * (h + i)) 8 := ⟨_, rfl⟩
  have HM := Lib.hid (made38 n f)
  have HE := Lib.hid ef
  clear H ef
  go_enter Try.func19, Try.ntmps19
  go_wp2_with (first
    | (go_at_call 40; refine HH.out.mono ?_; rintro e w' ⟨rfl, rfl⟩)
    | (at_make
       refine wpList_make_lc _ rfl (.tmp 15) (.tmp 15) 34 rfl 38 i0 _ Try.underlying34 hi hz0 hz1 .i64 .i64 _ _ n n rfl rfl rfl rfl (Nat.le_refl _) (by rw [hz2]; omega) (by unfold maxLen; omega) ?_
       intro w1 hg1 hbel1
       have HS1 := Lib.hid (HS.out.below hbel1)
       have HB1 := Lib.hid hbel1
       have HG1 : Hid (Blk w1 w.heap.size 38 (wRow n 0 f).toArray) := Lib.hid (by
         rw [← HM.out]
         exact hg1.out)
       have c3 : w1.cell? ⟨s, 3, none⟩ = some (.int .i64 ((h : Int) + n)) := HS1.out.blk.cell 3
       have z3 : w1.frozen? ⟨s, 3, none⟩ = false := HS1.out.blk.frozen 3
       have HS2 : Hid (SkI (w1.setCell ⟨s, 3, none⟩ (.int .i64 h)) a bb rm gm d s at_ cells h) := Lib.hid (HS1.out.high (by omega) _ rfl rfl)
       have HG2 : Hid (Blk (w1.setCell ⟨s, 3, none⟩ (.int .i64 h)) w.heap.size 38 (wRow n 0 f).toArray) := Lib.hid (HG1.out.far (p := ⟨s, 3, none⟩) (HG1.out.ne_ HS1.out.blk (by decide)) _)
       have HF2 : Hid (Fr (· = s) w (w1.setCell ⟨s, 3, none⟩ (.int .i64 h))) := Lib.hid ((Fr.of_below (S := (· = s)) hbel1).set_ (p := ⟨s, 3, none⟩) rfl _)
       clear hg1 hbel1))
  go_loopw [8, 27] (fun v8 v27 wr => ∃ k : Nat, k ≤ n ∧ v27 = .int .i64 k ∧ Hid (SkI wr a bb rm gm d s at_ cells h) ∧ Hid (Blk wr w.heap.size 38 (wRow n k f).toArray) ∧ Hid (Fr (· = s) w wr)) (fun _ v27 _ => n - (intOf v27).toNat)
  case atStart => exact ⟨0, Nat.zero_le _, rfl, HS2, HG2, HF2⟩
  case round =>
    obtain ⟨k, hk, rfl, HQ, HG, HF⟩ := hrel
    by_cases hlt : k < n
    · have c3 : wr.cell? ⟨s, 3, none⟩ = some (.int .i64 h) := HQ.out.blk.cell 3
      have HP := get_ok HQ.out (h + k) (by omega)
      rw [Int.natCast_add, show wdN d.mem (at_ + 8 * (h + k)) 8 = f k by rw [HE.out]] at HP
      have HP := Lib.hid HP
      have d5 : ∀ m, ∃ v0, (wr.drewN m).cell? ⟨w.heap.size, k, none⟩ = some v0 := fun m => ⟨_, (HG.out.cell k).trans (by rw [List.getElem?_toArray, wRow_get hlt])⟩
      have z5 : ∀ m, (wr.drewN m).frozen? ⟨w.heap.size, k, none⟩ = false := fun m => HG.out.frozen k
      have HN : Hid (∀ m, SkI ((wr.drewN m).setCell ⟨w.heap.size, k, none⟩ (U64 (f k))) a bb rm gm d s at_ cells h ∧ Blk ((wr.drewN m).setCell ⟨w.heap.size, k, none⟩ (U64 (f k))) w.heap.size 38 (wRow n (k + 1) f).toArray ∧ Fr (· = s) w ((wr.drewN m).setCell ⟨w.heap.size, k, none⟩ (U64 (f k)))) := Lib.hid (fun m =>
        ⟨(HQ.out.drewN m).store38 (p := ⟨w.heap.size, k, none⟩) (HG.out.drewN m) _, wRow_blk (HG.out.drewN m) hlt, (HF.out.drewN m).trans_new ((Fr.refl (· = w.heap.size) _).set_ (p := ⟨w.heap.size, k, none⟩) rfl _) (fun i e => .inr (Nat.le_of_eq e.symm))⟩)
      obtain ⟨y, ey⟩ : ∃ y, y = f k := ⟨_, rfl⟩
      rw [← ey] at HP HN
      clear ey
      go_wp2_with (go_at_call 41; refine HP.out.mono ?_; rintro e w' ⟨rfl, kq, rfl⟩; have d6 := d5 kq; obtain ⟨v0, d6⟩ := d6; have z6 := z5 kq)
      exact ⟨⟨k + 1, by omega, by go_num, Lib.hid (HN.out _).1, Lib.hid (HN.out _).2.1, Lib.hid (HN.out _).2.2⟩, by simp [intOf]; omega⟩
    · obtain rfl : n = k := by omega
      go_wp2
      go_ret2
      refine ⟨w.heap.size, rfl, Nat.le_refl _, ?_, HQ.out, HF.out⟩
      rw [← HE.out]
      exact HG.out
set_option maxRecDepth 100000 in
theorem Take_no (H : SkI w a bb rm gm d s at_ cells h) (n : Int) (hn1 : n ≤ 9223372036854775807) (hn : n < 0 ∨ (h : Int) < n) : Calls Try.prog 19 #[.pointer (some ⟨s, 0, none⟩), .int .i64 n] w fun e w' => e = .returned (.tuple #[.slice none 0 0, .int .i64 2]) ∧ w = w' := by
  have HH := Lib.hid (has_no H 0 n (by omega) hn1 (by omega))
  clear H
  go_enter Try.func19, Try.ntmps19
  go_wp2_with (go_at_call 40; refine HH.out.mono ?_; rintro e w' ⟨rfl, rfl⟩)
  go_ret2
  exact ⟨rfl, rfl⟩
set_option maxRecDepth 100000 in
theorem Take_nil (w : World) (n : Int) : Calls Try.prog 19 #[.pointer none, .int .i64 n] w fun e w' => e = .returned (.tuple #[.slice none 0 0, .int .i64 12]) ∧ w = w' := by
  have HH := Lib.hid (has_nil w 0 n)
  go_enter Try.func19, Try.ntmps19
  go_wp2_with (go_at_call 40; refine HH.out.mono ?_; rintro e w' ⟨rfl, rfl⟩)
  go_ret2
  exact ⟨rfl, rfl⟩
set_option maxRecDepth 100000 in
theorem Unwind_no (H : SkI w a bb rm gm d s at_ cells h) (n c : Int) (hc1 : c ≤ 9223372036854775807) (hn1 : n ≤ 9223372036854775807) (hp : c < 0 ∨ (0 ≤ c ∧ n < 0) ∨ (0 ≤ c ∧ 0 ≤ n ∧ (h : Int) - c < n)) : Calls Try.prog 22 #[.pointer (some ⟨s, 0, none⟩), .int .i64 n, .int .i64 c] w fun e w' => e = .returned (.int .i64 2) ∧ w = w' := by
  have HH := Lib.hid (has_no H c n hc1 hn1 hp)
  clear H
  go_enter Try.func22, Try.ntmps22
  go_wp2_with (go_at_call 40; refine HH.out.mono ?_; rintro e w' ⟨rfl, rfl⟩)
  go_ret
  exact ⟨rfl, rfl⟩
set_option maxRecDepth 100000 in
theorem Unwind_nil (w : World) (n c : Int) : Calls Try.prog 22 #[.pointer none, .int .i64 n, .int .i64 c] w fun e w' => e = .returned (.int .i64 12) ∧ w = w' := by
  have HH := Lib.hid (has_nil w c n)
  go_enter Try.func22, Try.ntmps22
  go_wp2_with (go_at_call 40; refine HH.out.mono ?_; rintro e w' ⟨rfl, rfl⟩)
  go_ret
  exact ⟨rfl, rfl⟩
end
end Go.Proofs.Ythfdblpodnodcaa
