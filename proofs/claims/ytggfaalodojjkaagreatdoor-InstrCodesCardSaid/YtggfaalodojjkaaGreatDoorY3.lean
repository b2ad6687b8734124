/-
  Texts of YtggfaalodojjkaaGreatDoorY3.
-/
import Derived.Test.YtggfaalodojjkaaGreatDoorY2
import Derived.BigGuard
import Derived.Deep.RegionHeld3
namespace Go.Proofs.YtggfaalodojjkaaGreatDoor
open Go.RowKit
set_option linter.unusedVariables false
set_option linter.unusedSimpArgs false
/-- a string as a value -/
def Sv (l : List UInt8) : Value := .string (bs l)
theorem info9 : (Tryz.prog.info? 9).map (fun i => (i.zero, i.size, i.bytes)) = some (some (.string ⟨#[]⟩), 1, 16) := by kernel_rfl
theorem take_moreS (l : List Int) (k : Nat) (h : k < l.length) : l.take (k + 1) = l.take k ++ [l.getD k 0] := by
  rw [List.take_succ_eq_append_getElem h, List.getD_eq_getElem?_getD, List.getElem?_eq_getElem h]; rfl
/-- a number's text -/
def tn (z : Int) : List UInt8 := Lib.decDigits z.toNat
/-- the row that tens makes -/
def TnP (l : List Int) (w : World) (e : Ending) (w' : World) : Prop :=
  ∃ v, e = .returned v ∧ w'.ownsRow w.heap.size 9 1 v l.length (l.map fun z => Sv (tn z)) ∧ Below w.heap.size w w'
set_option maxHeartbeats 4000000 in
set_option maxRecDepth 100000 in
theorem tens_ok (A : Option Addr) (n c : Nat) (l : List Int) (w : World) (hl : Sl w A n c l) (hn : n ≤ 200000) (hz : ∀ z ∈ l, 0 ≤ z ∧ z < 18446744073709551616) (hL : Lw w) :
    Calls Tryz.prog 63 #[.slice A n c] w (TnP l w) := by
  obtain ⟨i0, hi, hz0, hz1, hz2⟩ := info_parts info9
  obtain ⟨hln, hnc, hcm, hc⟩ := hl
  have HC := Lib.hid hc
  have HF := Lib.hid (fun (z : Int) (V : World) (hb : Below w.heap.size w V) (h : 0 ≤ z ∧ z < 18446744073709551616) => (FU10 z.toNat (by omega) V (hL.below hb)))
  have HZ := Lib.hid (fun (k : Nat) (hk : k < l.length) => (hz (l.getD k 0) (by rw [List.getD_eq_getElem?_getD, List.getElem?_eq_getElem hk]; exact List.getElem_mem hk)))
  unfold maxLen at hcm
  clear hc hL hz
  go_enter Tryz.func63, Tryz.ntmps63
  go_wp2_with fail
  go_loopw [3, 8] (fun v3 v8 wr => ∃ k : Nat, k ≤ n ∧ v8 = .int .i64 k ∧ Hid (wr.ownsRow w.heap.size 9 1 v3 k ((l.take k).map fun z => Sv (tn z))) ∧ Hid (Below w.heap.size w wr)) (fun _ v8 _ => n - (intOf v8).toNat)
  case atStart => exact ⟨0, by omega, rfl, Lib.hid (World.ownsRow_nil _ _ _ _), Lib.hid (Below.refl _ _)⟩
  case round =>
    obtain ⟨k, hk, rfl, HO, HB⟩ := hrel
    by_cases hlt : k < n
    · obtain ⟨g, o, rfl, hg, hcl⟩ := HC.out (by omega)
      have hx : wr.cell? ⟨g, o + k, none⟩ = some (.int .u64 (l.getD k 0)) := (HB.out.cell (p := ⟨g, o + k, none⟩) hg).trans (hcl k hlt)
      have HY := Lib.hid (HZ.out k (by omega))
      have HT := Lib.hid (take_moreS l k (by omega))
      clear hcl
      generalize l.getD k 0 = z at hx HY HT
      have HCl := Lib.hid (HF.out z wr HB.out HY.out)
      have hzz : ((z.toNat : Nat) : Int) = z := by have := HY.out; omega
      rw [hzz] at HCl
      clear hzz
      obtain ⟨T, hT⟩ : ∃ T, T = bs (Lib.decDigits z.toNat) := ⟨_, rfl⟩
      rw [← hT] at HCl
      have HTT := Lib.hid hT
      clear hT
      go_wp2_with (first
        | (go_at_call 91; refine HCl.out.mono ?_; rintro e w2 ⟨rfl, hb⟩
           have HO2 := Lib.hid (own_kept HO.out hb)
           have HB2 := Lib.hid (HB.out.trans (hb.mono HB.out.size))
           clear hb)
        | (at_builtin; refine wpList_append_own _ rfl (.tmp 12) (.tmp 15) 73 rfl w.heap.size 9 i0 _ 1 16 Tryz.underlying73 hi hz0 hz1 hz2 rfl (by decide) _ k _ rfl (HO2.out.alloc _) ⟨w2.heap.size, 0, none⟩ 1 1 [.string T] rfl rfl (cell_new _ _ _) ?c2 ?c3 ?c4 ?c5 ?_))
      case c2 => intro u hu; simp at hu; subst hu; rfl
      case c3 => unfold maxLen; omega
      case c4 => omega
      case c5 => have := HB2.out.size; simp; omega
      intro v1 w3 hown1 hg1 _
      have HB3 : Hid (Below w.heap.size w w3) := Lib.hid (own_below HB2.out HB2.out.size HO2.out hg1)
      have HO3 : Hid (w3.ownsRow w.heap.size 9 1 v1 (k + 1) ((l.take (k + 1)).map fun z => Sv (tn z))) := Lib.hid (by
        rw [HT.out, List.map_append, List.map_take]
        rw [HTT.out] at hown1
        exact hown1)
      clear hown1 hg1
      go_wp2
      go_roundw
      case rel => exact ⟨k + 1, by omega, by go_num, HO3, HB3⟩
      case measure => simp [intOf]; omega
    · obtain rfl : k = n := by omega
      go_wp2
      go_ret
      rw [List.take_of_length_le (by omega)] at HO
      exact ⟨_, rfl, hln ▸ HO.out, HB.out⟩
end Go.Proofs.YtggfaalodojjkaaGreatDoor
namespace Go.Proofs.YtggfaalodojjkaaGreatDoor
open Go.RowKit
set_option linter.unusedVariables false
set_option linter.unusedSimpArgs false
def btT (t : Nat) : Nat := if t = 127 then 32 else if t = 126 then 64 else 0
theorem kinds3 (t : Nat) (ht : t < 256) (P : Nat → Prop) (h1 : P 127) (h2 : P 126) (h3 : ∀ t, t < 256 → t ≠ 127 → t ≠ 126 → P t) : P t := by
  by_cases h : t = 127
  · exact h ▸ h1
  · by_cases h' : t = 126
    · exact h' ▸ h2
    · exact h3 t ht h h'
set_option maxRecDepth 100000 in
theorem Bits_ok (t : Nat) (ht : t < 256) (w : World) : Calls Tryz.prog 59 #[.int .u8 t] w fun e w' => e = .returned (.int .i64 (btT t)) ∧ w = w' := by
  revert w
  refine kinds3 t ht (fun t => ∀ w, Calls Tryz.prog 59 #[.int .u8 t] w fun e w' => e = .returned (.int .i64 (btT t)) ∧ w = w') ?_ ?_ ?_
  · intro w; try show Calls Tryz.prog _ _ w _
    go_enter Tryz.func59, Tryz.ntmps59
    go_wp2
    go_ret
    exact ⟨rfl, rfl⟩
  · intro w; try show Calls Tryz.prog _ _ w _
    go_enter Tryz.func59, Tryz.ntmps59
    go_wp2
    go_ret
    exact ⟨rfl, rfl⟩
  · intro t ht h1 h2 w
    have e : btT t = 0 := by unfold btT; rw [if_neg h1, if_neg h2]
    rw [e]
    have h1' : ((t : Int) == 127) = false := by rw [beq_eq_false_iff_ne]; omega
    have h2' : ((t : Int) == 126) = false := by rw [beq_eq_false_iff_ne]; omega
    clear e
    go_enter Tryz.func59, Tryz.ntmps59
    go_wp2
    go_ret
    exact ⟨rfl, rfl⟩
theorem byt_own113 {w : World} {B n : Nat} {v : Value} {l : List Nat} (h : w.ownsRow B 113 1 v n (l.map U8)) (hl : l.length = n) : ∃ A cp, v = .slice A n cp ∧ n ≤ cp ∧ cp ≤ maxLen ∧ (0 < n → ∃ g, A = some ⟨g, 0, none⟩ ∧ g < w.heap.size ∧ ∀ i, i < n → w.cell? ⟨g, i, none⟩ = some (.int .u8 (l.getD i 0 : Nat))) := by
  rcases h.2 with ⟨e, h1⟩ | ⟨g, cap, cur, e, h1, h2, h3, h4, h5, h6⟩
  · have : n = 0 := by
      rcases Nat.eq_zero_or_pos n with h0 | h0
      · exact h0
      · exact absurd h1 (by omega)
    subst this
    exact ⟨none, 0, e, Nat.le_refl _, Nat.zero_le _, fun q => absurd q (by omega)⟩
  · refine ⟨some ⟨g, 0, none⟩, cap, e, by omega, h4, fun h0 => ⟨g, rfl, ?_, fun i hi => ?_⟩⟩
    · subst e
      exact (h.lt g rfl).2
    · subst e
      rw [h.cellAt i (by omega), List.getElem?_map, List.getD_eq_getElem?_getD, List.getElem?_eq_getElem (by omega)]
      rfl
set_option maxHeartbeats 4000000 in
set_option maxRecDepth 100000 in
theorem bits33_ok (cd f : Int) (nm : ByteArray) (At : Option Addr) (nt ct g ng cg y : Nat) (hy : y < 256) (w : World) (hng : 0 < ng) (hcg : ng ≤ cg) (hcm : cg ≤ 9223372036854775807) (hgl : g < w.heap.size) (hc : w.cell? ⟨g, 0, none⟩ = some (.int .u8 (y : Nat))) (hnt : nt ≤ ct) (hct : ct ≤ 9223372036854775807) :
    Calls Tryz.prog 33 #[.agg #[.int .i64 cd, .string nm, .int .i64 f, .slice At nt ct, .slice (some ⟨g, 0, none⟩) ng cg]] w fun e w' => e = .returned (.int .i64 (btT y)) ∧ Below w.heap.size w w' := by
  have hb0 : Below w.heap.size w (w.alloc (.cells #[.int .i64 cd, .string nm, .int .i64 f, .slice At nt ct, .slice (some ⟨g, 0, none⟩) ng cg] 61)) := (Below.refl _ _).alloc (Nat.le_refl _) _
  have hc2 : (w.alloc (.cells #[.int .i64 cd, .string nm, .int .i64 f, .slice At nt ct, .slice (some ⟨g, 0, none⟩) ng cg] 61)).cell? ⟨g, 0, none⟩ = some (.int .u8 (y : Nat)) := (hb0.cell (p := ⟨g, 0, none⟩) hgl).trans hc
  have HB := Lib.hid hb0
  have H := Lib.hid (fun W => Bits_ok y hy W)
  generalize btT y = q at H
  clear hb0
  go_enter Tryz.func33, Tryz.ntmps33
  go_wp2_with (go_at_call 59; (with_reducible refine (H.out _).mono ?_); rintro e w1 ⟨rfl, rfl⟩)
  go_ret
  exact ⟨rfl, HB.out⟩
set_option maxHeartbeats 4000000 in
set_option maxRecDepth 100000 in
theorem tooGreat_ok (z : Int) (w : World) : Calls Tryz.prog 89 #[.int .u64 z] w fun e w' => e = .returned (.bool (decide (4294967295 < z))) ∧ w = w' := by
  by_cases h : 4294967295 < z
  all_goals
    go_enter Tryz.func89, Tryz.ntmps89
    go_wp2
    go_ret
    exact ⟨by simp [h], rfl⟩
def okW (l : List Int) : Bool := l.all (fun z => !decide (4294967295 < z))
theorem all_take_i {f : Int → Bool} {l : List Int} {k : Nat} (hk : k < l.length) (h : (l.take k).all f = true) (ht : f (l.getD k 0) = true) : (l.take (k + 1)).all f = true := by
  rw [List.take_add_one, List.getElem?_eq_getElem hk, List.all_append, h]
  rw [List.getD_eq_getElem?_getD, List.getElem?_eq_getElem hk] at ht
  simpa using ht
theorem all_not_i {f : Int → Bool} {l : List Int} {k : Nat} (hk : k < l.length) (ht : f (l.getD k 0) = false) : l.all f = false := by
  rw [List.all_eq_false]
  refine ⟨l[k], List.getElem_mem hk, ?_⟩
  rw [List.getD_eq_getElem?_getD, List.getElem?_eq_getElem hk] at ht
  simpa using ht
def IxW (q : Bool) (w : World) (e : Ending) (w' : World) : Prop := ∃ i : Int, e = .returned (.int .i64 i) ∧ decide (0 ≤ i) = !q ∧ w = w'
set_option maxHeartbeats 4000000 in
set_option maxRecDepth 100000 in
theorem IndexW_ok (A : Option Addr) (n c : Nat) (l : List Int) (hn : n ≤ 200000) (w : World) (hb : Sl w A n c l) :
    Calls Tryz.prog 120 #[.slice A n c, .func (.func 89) #[] #[]] w (IxW (okW l) w) := by
  obtain ⟨hl, hcap, hcm, hc⟩ := hb
  subst hl
  unfold maxLen at hcm
  unfold U64 at hc
  have HC := Lib.hid hc
  have hn9 : l.length ≤ 200000 := hn
  clear hc
  go_enter Tryz.func120, Tryz.ntmps120
  go_wp2
  go_loopw [8] (fun v8 wr => ∃ k : Nat, k ≤ l.length ∧ v8 = .int .i64 k ∧ Hid ((l.take k).all (fun z => !decide (4294967295 < z)) = true) ∧ wr = w) (fun v8 _ => l.length - (intOf v8).toNat)
  case atStart => exact ⟨0, by omega, rfl, Lib.hid rfl, rfl⟩
  case round =>
    obtain ⟨k, hk, rfl, HA, rfl⟩ := hrel
    by_cases hlt : k < l.length
    · obtain ⟨b, off, rfl, hbl, hcell⟩ := HC.out (by omega)
      have h0 := hcell k hlt
      have HT := Lib.hid (fun h => all_take_i (f := fun z => !decide (4294967295 < z)) hlt HA.out h)
      have HN := Lib.hid (fun h => all_not_i (f := fun z => !decide (4294967295 < z)) (l := l) (k := k) hlt h)
      clear hcell
      generalize l.getD k 0 = y at h0 HT HN
      have HU := Lib.hid (fun W => tooGreat_ok y W)
      cases hty : decide (4294967295 < y) with
      | false =>
        rw [hty] at HU HT
        have HT2 := Lib.hid (HT.out rfl)
        clear HT HN hty
        go_wp2_with (go_at_call 89; (with_reducible refine (HU.out _).mono ?_); rintro e w1 ⟨rfl, rfl⟩)
        go_roundw
        case rel => exact ⟨k + 1, by omega, by go_num, HT2, by first | trivial | rfl⟩
        case measure => simp [intOf]; omega
      | true =>
        rw [hty] at HU HN
        have HN2 := Lib.hid (HN.out rfl)
        clear HT HN hty
        go_wp2_with (go_at_call 89; (with_reducible refine (HU.out _).mono ?_); rintro e w1 ⟨rfl, rfl⟩)
        go_ret
        exact ⟨(k : Int), rfl, by unfold okW; rw [HN2.out]; simp, rfl⟩
    · obtain rfl : k = l.length := by omega
      have HE : Hid (okW l = true) := Lib.hid (by have h := HA.out; rwa [List.take_of_length_le (Nat.le_refl _)] at h)
      go_wp2
      go_ret
      exact ⟨-1, rfl, by rw [HE.out]; rfl, rfl⟩
set_option maxHeartbeats 4000000 in
set_option maxRecDepth 100000 in
theorem ContainsW_ok (A : Option Addr) (n c : Nat) (l : List Int) (hn : n ≤ 200000) (w : World) (hb : Sl w A n c l) :
    Calls Tryz.prog 88 #[.slice A n c, .func (.func 89) #[] #[]] w fun e w' => e = .returned (.bool (!okW l)) ∧ w = w' := by
  have HI := Lib.hid (IndexW_ok A n c l hn w hb)
  clear hb
  go_enter Tryz.func88, Tryz.ntmps88
  go_wp2_with (go_at_call 120; (with_reducible refine HI.out.mono ?_); (rintro e w1 ⟨i, rfl, hi, rfl⟩); have HQ := Lib.hid hi; clear hi)
  go_ret
  exact ⟨by rw [← HQ.out]; simp, rfl⟩
def bkB (a : Int) : Bool := decide (a = 64) || decide (a = 127) || decide (a = 126)
set_option maxHeartbeats 4000000 in
set_option maxRecDepth 100000 in
theorem blockType_ok (a : Int) (w : World) : Calls Tryz.prog 56 #[.int .u64 a] w fun e w' => e = .returned (.bool (bkB a)) ∧ w = w' := by
  by_cases h1 : a = 64
  · subst h1
    go_enter Tryz.func56, Tryz.ntmps56
    go_wp2
    go_ret
    exact ⟨rfl, rfl⟩
  have e1 : (a == 64) = false := by simpa using h1
  by_cases h2 : a = 127
  · subst h2
    go_enter Tryz.func56, Tryz.ntmps56
    go_wp2
    go_ret
    exact ⟨rfl, rfl⟩
  have e2 : (a == 127) = false := by simpa using h2
  by_cases h3 : a = 126
  · subst h3
    go_enter Tryz.func56, Tryz.ntmps56
    go_wp2
    go_ret
    exact ⟨rfl, rfl⟩
  have e3 : (a == 126) = false := by simpa using h3
  have HE : Hid (bkB a = false) := Lib.hid (by unfold bkB; simp [h1, h2, h3])
  clear h1 h2 h3
  go_enter Tryz.func56, Tryz.ntmps56
  go_wp2
  go_ret
  exact ⟨by rw [HE.out]; rfl, rfl⟩
end Go.Proofs.YtggfaalodojjkaaGreatDoor
namespace Go.Proofs.YtggfaalodojjkaaGreatDoor
open Go.RowKit
set_option linter.unusedVariables false
set_option linter.unusedSimpArgs false
structure Bn where
  a : Int
  b : Int
  al : Int
  lb : Int
def Bn.v (m : Bn) : Value := .agg #[.int .u64 m.a, .int .u64 m.b, .int .i64 m.al, .int .i64 m.lb]
/-- the bounds of a form; y: what a constant gives -/
def bn (f : Int) (y : Nat) : Bn := if f = 0 then ⟨0, 0, 0, 0⟩ else if f = 3 then ⟨4294967295, 0, 0, 100⟩ else if f = 5 ∨ f = 10 then ⟨4294967295, 4294967295, 0, 0⟩ else if f = 8 then ⟨4294967295, 18446744073709551615, 31, 0⟩ else if f = 11 then (if y = 127 then ⟨4294967295, 0, 0, 0⟩ else ⟨18446744073709551615, 0, 0, 0⟩) else ⟨4294967295, 0, 0, 0⟩
theorem results55 : Tryz.f55.results = #[.cell 2 107] := by kernel_rfl
theorem heap2 (w : World) (a b : Obj) : ((w.alloc a).alloc b).heap[w.heap.size + 1]? = some b := by
  have h := heap_alloc_new (w.alloc a) b
  rwa [show (w.alloc a).heap.size = w.heap.size + 1 by simp] at h
set_option maxHeartbeats 4000000 in
set_option maxRecDepth 100000 in
theorem bound0_ok (cd : Int) (nm : ByteArray) (At Ag : Option Addr) (nt ct ng cg : Nat) (w : World) :
    Calls Tryz.prog 55 #[.agg #[.int .i64 cd, .string nm, .int .i64 0, .slice At nt ct, .slice Ag ng cg]] w fun e w' => e = .returned (.agg #[.int .u64 0, .int .u64 0, .int .i64 0, .int .i64 0]) ∧ Below w.heap.size w w' := by
  have HB := Lib.hid ((Below.refl w.heap.size w).alloc (Nat.le_refl _) (.cells #[.int .i64 cd, .string nm, .int .i64 0, .slice At nt ct, .slice Ag ng cg] 61))
  go_enter Tryz.func55, Tryz.ntmps55
  go_wp2
  refine bodyPost_ret (v := .agg #[.int .u64 0, .int .u64 0, .int .i64 0, .int .i64 0]) (results_cell_row results55 _ _ (w.heap.size + 1) 107 _ (0, 0) _ rfl (heap2 w _ _) Tryz.underlying107 rfl (by kernel_rfl)) rfl ?_
  exact ⟨rfl, HB.out.alloc HB.out.size _⟩
set_option maxHeartbeats 4000000 in
set_option maxRecDepth 100000 in
theorem bound3_ok (cd : Int) (nm : ByteArray) (At Ag : Option Addr) (nt ct ng cg : Nat) (w : World) :
    Calls Tryz.prog 55 #[.agg #[.int .i64 cd, .string nm, .int .i64 3, .slice At nt ct, .slice Ag ng cg]] w fun e w' => e = .returned (.agg #[.int .u64 4294967295, .int .u64 0, .int .i64 0, .int .i64 100]) ∧ Below w.heap.size w w' := by
  have HB := Lib.hid ((Below.refl w.heap.size w).alloc (Nat.le_refl _) (.cells #[.int .i64 cd, .string nm, .int .i64 3, .slice At nt ct, .slice Ag ng cg] 61))
  go_enter Tryz.func55, Tryz.ntmps55
  go_wp2
  refine bodyPost_ret (v := .agg #[.int .u64 4294967295, .int .u64 0, .int .i64 0, .int .i64 100]) (results_cell_row results55 _ _ (w.heap.size + 1) 107 _ (0, 0) _ rfl (heap2 w _ _) Tryz.underlying107 rfl (by kernel_rfl)) rfl ?_
  exact ⟨rfl, HB.out.alloc HB.out.size _⟩
set_option maxHeartbeats 4000000 in
set_option maxRecDepth 100000 in
theorem bound5_ok (cd : Int) (nm : ByteArray) (At Ag : Option Addr) (nt ct ng cg : Nat) (w : World) :
    Calls Tryz.prog 55 #[.agg #[.int .i64 cd, .string nm, .int .i64 5, .slice At nt ct, .slice Ag ng cg]] w fun e w' => e = .returned (.agg #[.int .u64 4294967295, .int .u64 4294967295, .int .i64 0, .int .i64 0]) ∧ Below w.heap.size w w' := by
  have HB := Lib.hid ((Below.refl w.heap.size w).alloc (Nat.le_refl _) (.cells #[.int .i64 cd, .string nm, .int .i64 5, .slice At nt ct, .slice Ag ng cg] 61))
  go_enter Tryz.func55, Tryz.ntmps55
  go_wp2
  refine bodyPost_ret (v := .agg #[.int .u64 4294967295, .int .u64 4294967295, .int .i64 0, .int .i64 0]) (results_cell_row results55 _ _ (w.heap.size + 1) 107 _ (0, 0) _ rfl (heap2 w _ _) Tryz.underlying107 rfl (by kernel_rfl)) rfl ?_
  exact ⟨rfl, HB.out.alloc HB.out.size _⟩
set_option maxHeartbeats 4000000 in
set_option maxRecDepth 100000 in
theorem bound10_ok (cd : Int) (nm : ByteArray) (At Ag : Option Addr) (nt ct ng cg : Nat) (w : World) :
    Calls Tryz.prog 55 #[.agg #[.int .i64 cd, .string nm, .int .i64 10, .slice At nt ct, .slice Ag ng cg]] w fun e w' => e = .returned (.agg #[.int .u64 4294967295, .int .u64 4294967295, .int .i64 0, .int .i64 0]) ∧ Below w.heap.size w w' := by
  have HB := Lib.hid ((Below.refl w.heap.size w).alloc (Nat.le_refl _) (.cells #[.int .i64 cd, .string nm, .int .i64 10, .slice At nt ct, .slice Ag ng cg] 61))
  go_enter Tryz.func55, Tryz.ntmps55
  go_wp2
  refine bodyPost_ret (v := .agg #[.int .u64 4294967295, .int .u64 4294967295, .int .i64 0, .int .i64 0]) (results_cell_row results55 _ _ (w.heap.size + 1) 107 _ (0, 0) _ rfl (heap2 w _ _) Tryz.underlying107 rfl (by kernel_rfl)) rfl ?_
  exact ⟨rfl, HB.out.alloc HB.out.size _⟩
set_option maxHeartbeats 4000000 in
set_option maxRecDepth 100000 in
theorem bound8_ok (cd : Int) (nm : ByteArray) (At Ag : Option Addr) (nt ct ng cg : Nat) (w : World) :
    Calls Tryz.prog 55 #[.agg #[.int .i64 cd, .string nm, .int .i64 8, .slice At nt ct, .slice Ag ng cg]] w fun e w' => e = .returned (.agg #[.int .u64 4294967295, .int .u64 18446744073709551615, .int .i64 31, .int .i64 0]) ∧ Below w.heap.size w w' := by
  have HB := Lib.hid ((Below.refl w.heap.size w).alloc (Nat.le_refl _) (.cells #[.int .i64 cd, .string nm, .int .i64 8, .slice At nt ct, .slice Ag ng cg] 61))
  go_enter Tryz.func55, Tryz.ntmps55
  go_wp2
  refine bodyPost_ret (v := .agg #[.int .u64 4294967295, .int .u64 18446744073709551615, .int .i64 31, .int .i64 0]) (results_cell_row results55 _ _ (w.heap.size + 1) 107 _ (0, 0) _ rfl (heap2 w _ _) Tryz.underlying107 rfl (by kernel_rfl)) rfl ?_
  exact ⟨rfl, HB.out.alloc HB.out.size _⟩
set_option maxHeartbeats 4000000 in
set_option maxRecDepth 100000 in
theorem boundX_ok (f : Int) (h0 : f ≠ 0) (h3 : f ≠ 3) (h5 : f ≠ 5) (h10 : f ≠ 10) (h8 : f ≠ 8) (h11 : f ≠ 11) (cd : Int) (nm : ByteArray) (At Ag : Option Addr) (nt ct ng cg : Nat) (w : World) :
    Calls Tryz.prog 55 #[.agg #[.int .i64 cd, .string nm, .int .i64 f, .slice At nt ct, .slice Ag ng cg]] w fun e w' => e = .returned (.agg #[.int .u64 4294967295, .int .u64 0, .int .i64 0, .int .i64 0]) ∧ Below w.heap.size w w' := by
  have HB := Lib.hid ((Below.refl w.heap.size w).alloc (Nat.le_refl _) (.cells #[.int .i64 cd, .string nm, .int .i64 f, .slice At nt ct, .slice Ag ng cg] 61))
  have e0 : (f == 0) = false := by simpa using h0
  have e3 : (f == 3) = false := by simpa using h3
  have e5 : (f == 5) = false := by simpa using h5
  have e10 : (f == 10) = false := by simpa using h10
  have e8 : (f == 8) = false := by simpa using h8
  have e11 : (f == 11) = false := by simpa using h11
  clear h0 h3 h5 h10 h8 h11
  go_enter Tryz.func55, Tryz.ntmps55
  go_wp2
  refine bodyPost_ret (v := .agg #[.int .u64 4294967295, .int .u64 0, .int .i64 0, .int .i64 0]) (results_cell_row results55 _ _ (w.heap.size + 1) 107 _ (0, 0) _ rfl (heap2 w _ _) Tryz.underlying107 rfl (by kernel_rfl)) rfl ?_
  exact ⟨rfl, HB.out.alloc HB.out.size _⟩
set_option maxHeartbeats 4000000 in
set_option maxRecDepth 100000 in
theorem bound11_127 (cd : Int) (nm : ByteArray) (At : Option Addr) (nt ct g ng cg : Nat) (w : World) (hng : 0 < ng) (hcg : ng ≤ cg) (hcm : cg ≤ 9223372036854775807) (hgl : g < w.heap.size) (hc : w.cell? ⟨g, 0, none⟩ = some (.int .u8 127)) (hnt : nt ≤ ct) (hct : ct ≤ 9223372036854775807) :
    Calls Tryz.prog 55 #[.agg #[.int .i64 cd, .string nm, .int .i64 11, .slice At nt ct, .slice (some ⟨g, 0, none⟩) ng cg]] w fun e w' => e = .returned (.agg #[.int .u64 4294967295, .int .u64 0, .int .i64 0, .int .i64 0]) ∧ Below w.heap.size w w' := by
  have hb0 : Below w.heap.size w ((w.alloc (.cells #[.int .i64 cd, .string nm, .int .i64 11, .slice At nt ct, .slice (some ⟨g, 0, none⟩) ng cg] 61)).alloc (.cells #[.int .u64 0, .int .u64 0, .int .i64 0, .int .i64 0] 107)) := ((Below.refl w.heap.size w).alloc (Nat.le_refl _) _).alloc (Nat.le_of_lt (by simp)) _
  have HZ : Hid (Blk ((w.alloc (.cells #[.int .i64 cd, .string nm, .int .i64 11, .slice At nt ct, .slice (some ⟨g, 0, none⟩) ng cg] 61)).alloc (.cells #[.int .u64 0, .int .u64 0, .int .i64 0, .int .i64 0] 107)) (w.heap.size + 1) 107 #[.int .u64 0, .int .u64 0, .int .i64 0, .int .i64 0]) := Lib.hid (heap2 w _ _)
  have HC := Lib.hid (bits33_ok cd 11 nm At nt ct g ng cg 127 (by decide) ((w.alloc (.cells #[.int .i64 cd, .string nm, .int .i64 11, .slice At nt ct, .slice (some ⟨g, 0, none⟩) ng cg] 61)).alloc (.cells #[.int .u64 0, .int .u64 0, .int .i64 0, .int .i64 0] 107)) hng hcg hcm (Nat.lt_of_lt_of_le hgl hb0.size) ((hb0.cell (p := ⟨g, 0, none⟩) hgl).trans hc) hnt hct)
  have HB := Lib.hid hb0
  have hbt : btT 127 = 32 := by decide
  rw [hbt] at HC
  clear hb0 hbt hc hgl
  go_enter Tryz.func55, Tryz.ntmps55
  go_wp2_with (go_at_call 33; (with_reducible refine HC.out.mono ?_); rintro e w1 ⟨rfl, hb⟩
               have HB1 := Lib.hid (HB.out.trans (hb.mono HB.out.size))
               have HZ1 := Lib.hid (HZ.out.below hb HZ.out.lt)
               have z0 := HZ1.out.cell 0
               have z1 := HZ1.out.cell 1
               have z2 := HZ1.out.cell 2
               have z3 := HZ1.out.cell 3
               have f0 := HZ1.out.frozen 0
               have f1 := HZ1.out.frozen 1
               have f2 := HZ1.out.frozen 2
               have f3 := HZ1.out.frozen 3
               clear hb)
  have hz : Blk ((((w1.setCell ⟨w.heap.size + 1, 0, none⟩ (.int .u64 4294967295)).setCell ⟨w.heap.size + 1, 1, none⟩ (.int .u64 0)).setCell ⟨w.heap.size + 1, 2, none⟩ (.int .i64 0)).setCell ⟨w.heap.size + 1, 3, none⟩ (.int .i64 0)) (w.heap.size + 1) 107 #[.int .u64 4294967295, .int .u64 0, .int .i64 0, .int .i64 0] := (((HZ1.out.set_ 0 _).set_ 1 _).set_ 2 _).set_ 3 _
  have hfr := ((((Fr.refl (fun k => k = w.heap.size + 1) w1).set_ (p := ⟨w.heap.size + 1, 0, none⟩) rfl (.int .u64 4294967295)).set_ (p := ⟨w.heap.size + 1, 1, none⟩) rfl (.int .u64 0)).set_ (p := ⟨w.heap.size + 1, 2, none⟩) rfl (.int .i64 0)).set_ (p := ⟨w.heap.size + 1, 3, none⟩) rfl (.int .i64 0)
  refine bodyPost_ret (v := .agg #[.int .u64 4294967295, .int .u64 0, .int .i64 0, .int .i64 0]) (results_cell_row results55 _ _ (w.heap.size + 1) 107 _ (0, 0) _ rfl hz Tryz.underlying107 rfl (by kernel_rfl)) rfl ?_
  exact ⟨rfl, hfr.below HB1.out HB1.out.size (fun k hk => by omega)⟩
set_option maxHeartbeats 4000000 in
set_option maxRecDepth 100000 in
theorem bound11_126 (cd : Int) (nm : ByteArray) (At : Option Addr) (nt ct g ng cg : Nat) (w : World) (hng : 0 < ng) (hcg : ng ≤ cg) (hcm : cg ≤ 9223372036854775807) (hgl : g < w.heap.size) (hc : w.cell? ⟨g, 0, none⟩ = some (.int .u8 126)) (hnt : nt ≤ ct) (hct : ct ≤ 9223372036854775807) :
    Calls Tryz.prog 55 #[.agg #[.int .i64 cd, .string nm, .int .i64 11, .slice At nt ct, .slice (some ⟨g, 0, none⟩) ng cg]] w fun e w' => e = .returned (.agg #[.int .u64 18446744073709551615, .int .u64 0, .int .i64 0, .int .i64 0]) ∧ Below w.heap.size w w' := by
  have hb0 : Below w.heap.size w ((w.alloc (.cells #[.int .i64 cd, .string nm, .int .i64 11, .slice At nt ct, .slice (some ⟨g, 0, none⟩) ng cg] 61)).alloc (.cells #[.int .u64 0, .int .u64 0, .int .i64 0, .int .i64 0] 107)) := ((Below.refl w.heap.size w).alloc (Nat.le_refl _) _).alloc (Nat.le_of_lt (by simp)) _
  have HZ : Hid (Blk ((w.alloc (.cells #[.int .i64 cd, .string nm, .int .i64 11, .slice At nt ct, .slice (some ⟨g, 0, none⟩) ng cg] 61)).alloc (.cells #[.int .u64 0, .int .u64 0, .int .i64 0, .int .i64 0] 107)) (w.heap.size + 1) 107 #[.int .u64 0, .int .u64 0, .int .i64 0, .int .i64 0]) := Lib.hid (heap2 w _ _)
  have HC := Lib.hid (bits33_ok cd 11 nm At nt ct g ng cg 126 (by decide) ((w.alloc (.cells #[.int .i64 cd, .string nm, .int .i64 11, .slice At nt ct, .slice (some ⟨g, 0, none⟩) ng cg] 61)).alloc (.cells #[.int .u64 0, .int .u64 0, .int .i64 0, .int .i64 0] 107)) hng hcg hcm (Nat.lt_of_lt_of_le hgl hb0.size) ((hb0.cell (p := ⟨g, 0, none⟩) hgl).trans hc) hnt hct)
  have HB := Lib.hid hb0
  have hbt : btT 126 = 64 := by decide
  rw [hbt] at HC
  clear hb0 hbt hc hgl
  go_enter Tryz.func55, Tryz.ntmps55
  go_wp2_with (go_at_call 33; (with_reducible refine HC.out.mono ?_); rintro e w1 ⟨rfl, hb⟩
               have HB1 := Lib.hid (HB.out.trans (hb.mono HB.out.size))
               have HZ1 := Lib.hid (HZ.out.below hb HZ.out.lt)
               have z0 := HZ1.out.cell 0
               have z1 := HZ1.out.cell 1
               have z2 := HZ1.out.cell 2
               have z3 := HZ1.out.cell 3
               have f0 := HZ1.out.frozen 0
               have f1 := HZ1.out.frozen 1
               have f2 := HZ1.out.frozen 2
               have f3 := HZ1.out.frozen 3
               clear hb)
  have hz : Blk ((((w1.setCell ⟨w.heap.size + 1, 0, none⟩ (.int .u64 18446744073709551615)).setCell ⟨w.heap.size + 1, 1, none⟩ (.int .u64 0)).setCell ⟨w.heap.size + 1, 2, none⟩ (.int .i64 0)).setCell ⟨w.heap.size + 1, 3, none⟩ (.int .i64 0)) (w.heap.size + 1) 107 #[.int .u64 18446744073709551615, .int .u64 0, .int .i64 0, .int .i64 0] := (((HZ1.out.set_ 0 _).set_ 1 _).set_ 2 _).set_ 3 _
  have hfr := ((((Fr.refl (fun k => k = w.heap.size + 1) w1).set_ (p := ⟨w.heap.size + 1, 0, none⟩) rfl (.int .u64 18446744073709551615)).set_ (p := ⟨w.heap.size + 1, 1, none⟩) rfl (.int .u64 0)).set_ (p := ⟨w.heap.size + 1, 2, none⟩) rfl (.int .i64 0)).set_ (p := ⟨w.heap.size + 1, 3, none⟩) rfl (.int .i64 0)
  refine bodyPost_ret (v := .agg #[.int .u64 18446744073709551615, .int .u64 0, .int .i64 0, .int .i64 0]) (results_cell_row results55 _ _ (w.heap.size + 1) 107 _ (0, 0) _ rfl hz Tryz.underlying107 rfl (by kernel_rfl)) rfl ?_
  exact ⟨rfl, hfr.below HB1.out HB1.out.size (fun k hk => by omega)⟩
end Go.Proofs.YtggfaalodojjkaaGreatDoor
namespace Go.Proofs.YtggfaalodojjkaaGreatDoor
open Go.RowKit
set_option linter.unusedVariables false
set_option linter.unusedSimpArgs false
/-- is an instruction within bounds? -/
def wiB (x : In) (m : Bn) : Bool := decide (x.a ≤ m.a) && decide (x.b ≤ m.b) && decide (0 ≤ x.al) && decide (x.al ≤ m.al) && decide ((x.l.length : Int) ≤ m.lb) && okW x.l
set_option maxHeartbeats 4000000 in
set_option maxRecDepth 100000 in
theorem within_ok (cd a b al : Int) (A : Option Addr) (c : Nat) (l : List Int) (ma mb mal mlb : Int) (hn : l.length ≤ 200000) (w : World) (hl : Sl w A l.length c l) :
    Calls Tryz.prog 54 #[.agg #[.int .i64 cd, .int .u64 a, .int .u64 b, .int .i64 al, .slice A l.length c], .agg #[.int .u64 ma, .int .u64 mb, .int .i64 mal, .int .i64 mlb]] w fun e w' => e = .returned (.bool (wiB ⟨cd, a, b, al, l⟩ ⟨ma, mb, mal, mlb⟩)) ∧ Below w.heap.size w w' := by
  have hb0 : Below w.heap.size w ((w.alloc (.cells #[.int .i64 cd, .int .u64 a, .int .u64 b, .int .i64 al, .slice A l.length c] 30)).alloc (.cells #[.int .u64 ma, .int .u64 mb, .int .i64 mal, .int .i64 mlb] 107)) := ((Below.refl w.heap.size w).alloc (Nat.le_refl _) _).alloc (Nat.le_of_lt (by simp)) _
  have HC := Lib.hid (ContainsW_ok A l.length c l hn _ (hl.below hb0))
  have HB := Lib.hid hb0
  have c1 := hl.2.1
  have c2 := hl.2.2.1
  unfold maxLen at c2
  have HQ : Hid (wiB ⟨cd, a, b, al, l⟩ ⟨ma, mb, mal, mlb⟩ = (decide (a ≤ ma) && decide (b ≤ mb) && decide (0 ≤ al) && decide (al ≤ mal) && decide ((l.length : Int) ≤ mlb) && okW l)) := Lib.hid rfl
  generalize wiB ⟨cd, a, b, al, l⟩ ⟨ma, mb, mal, mlb⟩ = r at HQ ⊢
  generalize okW l = q at HC HQ
  generalize l.length = n at *
  clear hb0 hl
  by_cases h1 : a ≤ ma
  case neg =>
    have HF : Hid (r = false) := Lib.hid (by rw [HQ.out]; simp [h1])
    go_enter Tryz.func54, Tryz.ntmps54
    go_wp2
    go_ret
    exact ⟨by rw [HF.out]; rfl, HB.out⟩
  by_cases h2 : b ≤ mb
  case neg =>
    have HF : Hid (r = false) := Lib.hid (by rw [HQ.out]; simp [h1, h2])
    go_enter Tryz.func54, Tryz.ntmps54
    go_wp2
    go_ret
    exact ⟨by rw [HF.out]; rfl, HB.out⟩
  by_cases h3 : 0 ≤ al
  case neg =>
    have HF : Hid (r = false) := Lib.hid (by rw [HQ.out]; simp [h1, h2, h3])
    go_enter Tryz.func54, Tryz.ntmps54
    go_wp2
    go_ret
    exact ⟨by rw [HF.out]; rfl, HB.out⟩
  by_cases h4 : al ≤ mal
  case neg =>
    have HF : Hid (r = false) := Lib.hid (by rw [HQ.out]; simp [h1, h2, h3, h4])
    go_enter Tryz.func54, Tryz.ntmps54
    go_wp2
    go_ret
    exact ⟨by rw [HF.out]; rfl, HB.out⟩
  by_cases h5 : (n : Int) ≤ mlb
  case neg =>
    have HF : Hid (r = false) := Lib.hid (by rw [HQ.out]; simp [h1, h2, h3, h4, h5])
    go_enter Tryz.func54, Tryz.ntmps54
    go_wp2
    go_ret
    exact ⟨by rw [HF.out]; rfl, HB.out⟩
  have HR : Hid (r = q) := Lib.hid (by rw [HQ.out]; simp [h1, h2, h3, h4, h5])
  cases q
  all_goals
    go_enter Tryz.func54, Tryz.ntmps54
    go_wp2_with (go_at_call 88; (with_reducible refine HC.out.mono ?_); rintro e w1 ⟨rfl, rfl⟩)
    go_ret
    exact ⟨by rw [HR.out]; rfl, HB.out⟩
end Go.Proofs.YtggfaalodojjkaaGreatDoor
namespace Go.Proofs.YtggfaalodojjkaaGreatDoor
open Go.RowKit
set_option linter.unusedVariables false
set_option linter.unusedSimpArgs false
/-- facts of all rows -/
theorem rw_facts : ∀ r ∈ RW, r.takes.length ≤ 3 ∧ r.gives.length ≤ 3 ∧ (r.form = 11 → r.gives = [126] ∨ r.gives = [127]) := by decide +kernel
/-- the bounds of a row -/
def bnR (r : Rw) : Bn := bn (r.form : Int) (r.gives.getD 0 0)
/-- may an instruction of this row be? -/
def riB (x : In) (r : Rw) : Bool := wiB x (bnR r) && !(decide (r.form = 1) && !bkB x.a)
/-- a row's info in memory -/
def InfAt (w : World) (B : Nat) (r : Rw) (i : Nat) (At : Option Addr) (ct : Nat) (Ag : Option Addr) (cg : Nat) : Prop :=
  w.ownsRow B 113 1 (.slice At r.takes.length ct) r.takes.length (r.takes.map U8) ∧ w.ownsRow B 113 1 (.slice Ag r.gives.length cg) r.gives.length (r.gives.map U8)
def infV (r : Rw) (i : Nat) (At : Option Addr) (ct : Nat) (Ag : Option Addr) (cg : Nat) : Array Value := #[.int .i64 ((r.first : Int) + (i : Int)), .string (nmS r i), .int .i64 ((r.form : Nat) : Int), .slice At r.takes.length ct, .slice Ag r.gives.length cg]
/-- the bounds of a row's info -/
theorem boundR_ok (r : Rw) (hr : r ∈ RW) (i B : Nat) (At : Option Addr) (ct : Nat) (Ag : Option Addr) (cg : Nat) (w : World) (h : InfAt w B r i At ct Ag cg) :
    Calls Tryz.prog 55 #[.agg (infV r i At ct Ag cg)] w fun e w' => e = .returned (bnR r).v ∧ Below w.heap.size w w' := by
  unfold infV bnR
  by_cases h0 : r.form = 0
  · rw [h0]; exact bound0_ok _ _ _ _ _ _ _ _ w
  by_cases h3 : r.form = 3
  · rw [h3]; exact bound3_ok _ _ _ _ _ _ _ _ w
  by_cases h5 : r.form = 5
  · rw [h5]; exact bound5_ok _ _ _ _ _ _ _ _ w
  by_cases h10 : r.form = 10
  · rw [h10]; exact bound10_ok _ _ _ _ _ _ _ _ w
  by_cases h8 : r.form = 8
  · rw [h8]; exact bound8_ok _ _ _ _ _ _ _ _ w
  by_cases h11 : r.form = 11
  · obtain ⟨A1, c1, e1, t1, t2, t3⟩ := byt_own113 h.1 rfl
    obtain ⟨A2, c2, e2, g1, g2, g3⟩ := byt_own113 h.2 rfl
    cases e1
    cases e2
    unfold maxLen at t2 g2
    rcases (rw_facts r hr).2.2 h11 with e | e
    · rw [e] at g1 g3 ⊢
      obtain ⟨g, rfl, hgl, hc⟩ := g3 (by simp)
      rw [h11]
      exact bound11_126 _ _ _ _ _ g 1 _ w (by decide) g1 g2 hgl (hc 0 (by simp)) t1 t2
    · rw [e] at g1 g3 ⊢
      obtain ⟨g, rfl, hgl, hc⟩ := g3 (by simp)
      rw [h11]
      exact bound11_127 _ _ _ _ _ g 1 _ w (by decide) g1 g2 hgl (hc 0 (by simp)) t1 t2
  · have k := boundX_ok (r.form : Int) (by omega) (by omega) (by omega) (by omega) (by omega) (by omega) ((r.first : Int) + (i : Int)) (nmS r i) At Ag r.takes.length ct r.gives.length cg w
    unfold bn
    rw [if_neg (by omega), if_neg (by omega), if_neg (by omega), if_neg (by omega), if_neg (by omega)]
    exact k
end Go.Proofs.YtggfaalodojjkaaGreatDoor
