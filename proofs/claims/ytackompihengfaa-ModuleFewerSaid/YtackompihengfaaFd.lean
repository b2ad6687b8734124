/-
  The law's Great; rows of instructions as told.
-/
import Derived.Test.YtackompihengfaaFc
namespace Go.Proofs.Ytackompihengfaa
open Go.RowKit
set_option linter.unusedVariables false
set_option linter.unusedSimpArgs false
/-- an instruction's five cells -/
def ItemAt (w : World) (b off : Nat) (x : In) : Prop := ∃ (B : Option Addr) (cp : Nat), w.cell? ⟨b, off, none⟩ = some (.int .i64 x.cd) ∧ w.cell? ⟨b, off + 1, none⟩ = some (.int .u64 x.a) ∧ w.cell? ⟨b, off + 2, none⟩ = some (.int .u64 x.b) ∧
  w.cell? ⟨b, off + 3, none⟩ = some (.int .i64 x.al) ∧ w.cell? ⟨b, off + 4, none⟩ = some (.slice B x.l.length cp) ∧ Sl w B x.l.length cp x.l
/-- a row of instructions -/
def IRow (w : World) (A : Option Addr) (m cap : Nat) (X : Nat → In) : Prop :=
  m ≤ cap ∧ cap ≤ maxLen ∧ (0 < m → ∃ b off, A = some ⟨b, off, none⟩ ∧ b < w.heap.size ∧ ∀ i, i < m → ItemAt w b (off + i * 5) (X i))
theorem ItemAt.below {w w' : World} {b off : Nat} {x : In} (h : ItemAt w b off x) (hb : Below w.heap.size w w') (hl : b < w.heap.size) : ItemAt w' b off x := by
  obtain ⟨B, cp, h0, h1, h2, h3, h4, h5⟩ := h
  exact ⟨B, cp, (hb.cell (p := ⟨b, off, none⟩) hl).trans h0, (hb.cell (p := ⟨b, off + 1, none⟩) hl).trans h1, (hb.cell (p := ⟨b, off + 2, none⟩) hl).trans h2, (hb.cell (p := ⟨b, off + 3, none⟩) hl).trans h3, (hb.cell (p := ⟨b, off + 4, none⟩) hl).trans h4, h5.below hb⟩
theorem IRow.below {w w' : World} {A : Option Addr} {m cap : Nat} {X : Nat → In} (h : IRow w A m cap X) (hb : Below w.heap.size w w') : IRow w' A m cap X := by
  obtain ⟨h1, h2, h3⟩ := h
  refine ⟨h1, h2, fun h0 => ?_⟩
  obtain ⟨b, off, e, hl, hi⟩ := h3 h0
  exact ⟨b, off, e, Nat.lt_of_lt_of_le hl hb.size, fun i hi' => (hi i hi').below hb hl⟩
/-- no more than memory holds -/
def IBd (m : Nat) (X : Nat → In) : Prop := m ≤ 140737488355328 ∧ ∀ i, i < m → (X i).l.length ≤ 140737488355328
def grF (m : Nat) (X : Nat → In) : Prop := m ≤ 150 ∧ ∀ i, i < m → (X i).l.length ≤ 110
/-- what Great tells -/
def GrP (n0 m : Nat) (X : Nat → In) (w : World) (e : Ending) (w' : World) : Prop := Below w.heap.size w w' ∧ ∃ r : Nat, e = .returned (.int .i64 (r : Nat)) ∧ (r : Int) ≤ 22517998136852480 ∧ (r = 0 ↔ n0 ≤ 60 ∧ grF m X)
set_option maxHeartbeats 4000000 in
set_option maxRecDepth 100000 in
theorem Great_00 (A0 : Option Addr) (n0 c0 : Nat) (h0 : n0 ≤ 140737488355328) (A : Option Addr) (m cap : Nat) (X : Nat → In) (w : World) (hbd : IBd m X) (hr : IRow w A m cap X) (hA0 : n0 < 60) (hB0 : m < 150) :
    Calls Try.prog 24 #[.agg #[.slice A0 n0 c0, .slice A m cap]] w (GrP n0 m X w) := by
  obtain ⟨hm, hc, hX⟩ := hr
  have hb0 : Below w.heap.size w (w.alloc (.cells #[.slice A0 n0 c0, .slice A m cap] 61)) := (Below.refl _ _).alloc (Nat.le_refl _) _
  have HB := Lib.hid hb0
  unfold maxLen at hc
  have HX : Hid (0 < m → ∃ b off, A = some ⟨b, off, none⟩ ∧ b < w.heap.size ∧ ∀ i, i < m → ItemAt (w.alloc (.cells #[.slice A0 n0 c0, .slice A m cap] 61)) b (off + i * 5) (X i)) := Lib.hid (fun h => by
    obtain ⟨b, off, e, hl, hi⟩ := hX h
    exact ⟨b, off, e, hl, fun i hi' => (hi i hi').below hb0 hl⟩)
  have hm1 := hbd.1
  have HD := Lib.hid hbd.2
  clear hX hb0 hbd
  go_enter Try.func24, Try.ntmps24
  go_wp2
  go_loop [3, 4] (fun v3 v4 => ∃ (k r : Nat), k ≤ m ∧ k ≤ 150 ∧ v4 = .int .i64 k ∧ v3 = .int .i64 r ∧ Hid ((r : Int) ≤ 281474976710656 + k * 140737488355328) ∧ Hid (r = 0 ↔ n0 ≤ 60 ∧ m ≤ 150 ∧ ∀ i, i < k → (X i).l.length ≤ 110)) (fun _ v4 => m - (intOf v4).toNat)
  case atStart =>
    refine ⟨0, 0 + 0, by omega, by omega, rfl, by first | rfl | (congr 1; omega), Lib.hid (by omega), Lib.hid ?_⟩
    constructor
    · intro h; exact ⟨by omega, by omega, fun i hi => by omega⟩
    · rintro ⟨h1, h2, _⟩; omega
  case round =>
    obtain ⟨k, r, hk, hk1, rfl, rfl, HR, HI⟩ := hrel
    by_cases hlt : k < m
    · by_cases hlt2 : k < 150
      · obtain ⟨b, off, rfl, hbl, hi⟩ := HX.out (by omega)
        obtain ⟨B, cp, c0', c1, c2, c3, c4, _⟩ := hi k hlt
        have hln := HD.out k hlt
        have HIK : Hid ((∀ i, i < k + 1 → (X i).l.length ≤ 110) ↔ (∀ i, i < k → (X i).l.length ≤ 110) ∧ (X k).l.length ≤ 110) := Lib.hid ⟨fun h => ⟨fun i hi => h i (by omega), h k (by omega)⟩, fun h i hi => by
          by_cases e : i = k
          · subst e; exact h.2
          · exact h.1 i (by omega)⟩
        clear hi
        generalize (X k).l.length = q at c4 hln HIK
        have hr1 : (r : Int) ≤ 21392098230009856 := by have := HR.out; omega
        by_cases hq : 110 ≤ q
        · go_wp2
          go_round
          case rel =>
            refine ⟨k + 1, r + (q - 110), by omega, by omega, by go_num, by congr 1; omega, Lib.hid (by have := HR.out; omega), Lib.hid ?_⟩
            constructor
            · intro h9; obtain ⟨h1, h2, h3⟩ := HI.out.1 (by omega); exact ⟨h1, h2, HIK.out.2 ⟨h3, by omega⟩⟩
            · rintro ⟨h1, h2, h3⟩; have h5 := HIK.out.1 h3; have h6 := HI.out.2 ⟨h1, h2, h5.1⟩; have := h5.2; omega
          case measure => simp [intOf]; omega
        · go_wp2
          go_round
          case rel =>
            refine ⟨k + 1, r, by omega, by omega, by go_num, by first | rfl | (congr 1; omega), Lib.hid (by have := HR.out; omega), Lib.hid ?_⟩
            have h := HI.out
            constructor
            · intro h9; obtain ⟨h1, h2, h3⟩ := h.1 h9; exact ⟨h1, h2, HIK.out.2 ⟨h3, by omega⟩⟩
            · rintro ⟨h1, h2, h3⟩; exact h.2 ⟨h1, h2, (HIK.out.1 h3).1⟩
          case measure => simp [intOf]; omega
      · obtain rfl : k = 150 := by omega
        first
          | (exfalso; omega)
          | (go_wp2
             go_ret
             refine ⟨HB.out, r, rfl, by have := HR.out; omega, ?_⟩
             have h := HI.out
             constructor
             · intro h9; have := (h.1 h9).2.1; omega
             · rintro ⟨_, h2, _⟩; omega)
    · obtain rfl : k = m := by omega
      go_wp2
      go_ret
      refine ⟨HB.out, r, rfl, by have := HR.out; omega, ?_⟩
      exact HI.out
set_option maxHeartbeats 4000000 in
set_option maxRecDepth 100000 in
theorem Great_01 (A0 : Option Addr) (n0 c0 : Nat) (h0 : n0 ≤ 140737488355328) (A : Option Addr) (m cap : Nat) (X : Nat → In) (w : World) (hbd : IBd m X) (hr : IRow w A m cap X) (hA0 : n0 < 60) (hB0 : 150 ≤ m) :
    Calls Try.prog 24 #[.agg #[.slice A0 n0 c0, .slice A m cap]] w (GrP n0 m X w) := by
  obtain ⟨hm, hc, hX⟩ := hr
  have hb0 : Below w.heap.size w (w.alloc (.cells #[.slice A0 n0 c0, .slice A m cap] 61)) := (Below.refl _ _).alloc (Nat.le_refl _) _
  have HB := Lib.hid hb0
  unfold maxLen at hc
  have HX : Hid (0 < m → ∃ b off, A = some ⟨b, off, none⟩ ∧ b < w.heap.size ∧ ∀ i, i < m → ItemAt (w.alloc (.cells #[.slice A0 n0 c0, .slice A m cap] 61)) b (off + i * 5) (X i)) := Lib.hid (fun h => by
    obtain ⟨b, off, e, hl, hi⟩ := hX h
    exact ⟨b, off, e, hl, fun i hi' => (hi i hi').below hb0 hl⟩)
  have hm1 := hbd.1
  have HD := Lib.hid hbd.2
  clear hX hb0 hbd
  go_enter Try.func24, Try.ntmps24
  go_wp2
  go_loop [3, 4] (fun v3 v4 => ∃ (k r : Nat), k ≤ m ∧ k ≤ 150 ∧ v4 = .int .i64 k ∧ v3 = .int .i64 r ∧ Hid ((r : Int) ≤ 281474976710656 + k * 140737488355328) ∧ Hid (r = 0 ↔ n0 ≤ 60 ∧ m ≤ 150 ∧ ∀ i, i < k → (X i).l.length ≤ 110)) (fun _ v4 => m - (intOf v4).toNat)
  case atStart =>
    refine ⟨0, 0 + (m - 150), by omega, by omega, rfl, by first | rfl | (congr 1; omega), Lib.hid (by omega), Lib.hid ?_⟩
    constructor
    · intro h; exact ⟨by omega, by omega, fun i hi => by omega⟩
    · rintro ⟨h1, h2, _⟩; omega
  case round =>
    obtain ⟨k, r, hk, hk1, rfl, rfl, HR, HI⟩ := hrel
    by_cases hlt : k < m
    · by_cases hlt2 : k < 150
      · obtain ⟨b, off, rfl, hbl, hi⟩ := HX.out (by omega)
        obtain ⟨B, cp, c0', c1, c2, c3, c4, _⟩ := hi k hlt
        have hln := HD.out k hlt
        have HIK : Hid ((∀ i, i < k + 1 → (X i).l.length ≤ 110) ↔ (∀ i, i < k → (X i).l.length ≤ 110) ∧ (X k).l.length ≤ 110) := Lib.hid ⟨fun h => ⟨fun i hi => h i (by omega), h k (by omega)⟩, fun h i hi => by
          by_cases e : i = k
          · subst e; exact h.2
          · exact h.1 i (by omega)⟩
        clear hi
        generalize (X k).l.length = q at c4 hln HIK
        have hr1 : (r : Int) ≤ 21392098230009856 := by have := HR.out; omega
        by_cases hq : 110 ≤ q
        · go_wp2
          go_round
          case rel =>
            refine ⟨k + 1, r + (q - 110), by omega, by omega, by go_num, by congr 1; omega, Lib.hid (by have := HR.out; omega), Lib.hid ?_⟩
            constructor
            · intro h9; obtain ⟨h1, h2, h3⟩ := HI.out.1 (by omega); exact ⟨h1, h2, HIK.out.2 ⟨h3, by omega⟩⟩
            · rintro ⟨h1, h2, h3⟩; have h5 := HIK.out.1 h3; have h6 := HI.out.2 ⟨h1, h2, h5.1⟩; have := h5.2; omega
          case measure => simp [intOf]; omega
        · go_wp2
          go_round
          case rel =>
            refine ⟨k + 1, r, by omega, by omega, by go_num, by first | rfl | (congr 1; omega), Lib.hid (by have := HR.out; omega), Lib.hid ?_⟩
            have h := HI.out
            constructor
            · intro h9; obtain ⟨h1, h2, h3⟩ := h.1 h9; exact ⟨h1, h2, HIK.out.2 ⟨h3, by omega⟩⟩
            · rintro ⟨h1, h2, h3⟩; exact h.2 ⟨h1, h2, (HIK.out.1 h3).1⟩
          case measure => simp [intOf]; omega
      · obtain rfl : k = 150 := by omega
        first
          | (exfalso; omega)
          | (go_wp2
             go_ret
             refine ⟨HB.out, r, rfl, by have := HR.out; omega, ?_⟩
             have h := HI.out
             constructor
             · intro h9; have := (h.1 h9).2.1; omega
             · rintro ⟨_, h2, _⟩; omega)
    · obtain rfl : k = m := by omega
      go_wp2
      go_ret
      refine ⟨HB.out, r, rfl, by have := HR.out; omega, ?_⟩
      exact HI.out
set_option maxHeartbeats 4000000 in
set_option maxRecDepth 100000 in
theorem Great_10 (A0 : Option Addr) (n0 c0 : Nat) (h0 : n0 ≤ 140737488355328) (A : Option Addr) (m cap : Nat) (X : Nat → In) (w : World) (hbd : IBd m X) (hr : IRow w A m cap X) (hA0 : 60 ≤ n0) (hB0 : m < 150) :
    Calls Try.prog 24 #[.agg #[.slice A0 n0 c0, .slice A m cap]] w (GrP n0 m X w) := by
  obtain ⟨hm, hc, hX⟩ := hr
  have hb0 : Below w.heap.size w (w.alloc (.cells #[.slice A0 n0 c0, .slice A m cap] 61)) := (Below.refl _ _).alloc (Nat.le_refl _) _
  have HB := Lib.hid hb0
  unfold maxLen at hc
  have HX : Hid (0 < m → ∃ b off, A = some ⟨b, off, none⟩ ∧ b < w.heap.size ∧ ∀ i, i < m → ItemAt (w.alloc (.cells #[.slice A0 n0 c0, .slice A m cap] 61)) b (off + i * 5) (X i)) := Lib.hid (fun h => by
    obtain ⟨b, off, e, hl, hi⟩ := hX h
    exact ⟨b, off, e, hl, fun i hi' => (hi i hi').below hb0 hl⟩)
  have hm1 := hbd.1
  have HD := Lib.hid hbd.2
  clear hX hb0 hbd
  go_enter Try.func24, Try.ntmps24
  go_wp2
  go_loop [3, 4] (fun v3 v4 => ∃ (k r : Nat), k ≤ m ∧ k ≤ 150 ∧ v4 = .int .i64 k ∧ v3 = .int .i64 r ∧ Hid ((r : Int) ≤ 281474976710656 + k * 140737488355328) ∧ Hid (r = 0 ↔ n0 ≤ 60 ∧ m ≤ 150 ∧ ∀ i, i < k → (X i).l.length ≤ 110)) (fun _ v4 => m - (intOf v4).toNat)
  case atStart =>
    refine ⟨0, (n0 - 60) + 0, by omega, by omega, rfl, by first | rfl | (congr 1; omega), Lib.hid (by omega), Lib.hid ?_⟩
    constructor
    · intro h; exact ⟨by omega, by omega, fun i hi => by omega⟩
    · rintro ⟨h1, h2, _⟩; omega
  case round =>
    obtain ⟨k, r, hk, hk1, rfl, rfl, HR, HI⟩ := hrel
    by_cases hlt : k < m
    · by_cases hlt2 : k < 150
      · obtain ⟨b, off, rfl, hbl, hi⟩ := HX.out (by omega)
        obtain ⟨B, cp, c0', c1, c2, c3, c4, _⟩ := hi k hlt
        have hln := HD.out k hlt
        have HIK : Hid ((∀ i, i < k + 1 → (X i).l.length ≤ 110) ↔ (∀ i, i < k → (X i).l.length ≤ 110) ∧ (X k).l.length ≤ 110) := Lib.hid ⟨fun h => ⟨fun i hi => h i (by omega), h k (by omega)⟩, fun h i hi => by
          by_cases e : i = k
          · subst e; exact h.2
          · exact h.1 i (by omega)⟩
        clear hi
        generalize (X k).l.length = q at c4 hln HIK
        have hr1 : (r : Int) ≤ 21392098230009856 := by have := HR.out; omega
        by_cases hq : 110 ≤ q
        · go_wp2
          go_round
          case rel =>
            refine ⟨k + 1, r + (q - 110), by omega, by omega, by go_num, by congr 1; omega, Lib.hid (by have := HR.out; omega), Lib.hid ?_⟩
            constructor
            · intro h9; obtain ⟨h1, h2, h3⟩ := HI.out.1 (by omega); exact ⟨h1, h2, HIK.out.2 ⟨h3, by omega⟩⟩
            · rintro ⟨h1, h2, h3⟩; have h5 := HIK.out.1 h3; have h6 := HI.out.2 ⟨h1, h2, h5.1⟩; have := h5.2; omega
          case measure => simp [intOf]; omega
        · go_wp2
          go_round
          case rel =>
            refine ⟨k + 1, r, by omega, by omega, by go_num, by first | rfl | (congr 1; omega), Lib.hid (by have := HR.out; omega), Lib.hid ?_⟩
            have h := HI.out
            constructor
            · intro h9; obtain ⟨h1, h2, h3⟩ := h.1 h9; exact ⟨h1, h2, HIK.out.2 ⟨h3, by omega⟩⟩
            · rintro ⟨h1, h2, h3⟩; exact h.2 ⟨h1, h2, (HIK.out.1 h3).1⟩
          case measure => simp [intOf]; omega
      · obtain rfl : k = 150 := by omega
        first
          | (exfalso; omega)
          | (go_wp2
             go_ret
             refine ⟨HB.out, r, rfl, by have := HR.out; omega, ?_⟩
             have h := HI.out
             constructor
             · intro h9; have := (h.1 h9).2.1; omega
             · rintro ⟨_, h2, _⟩; omega)
    · obtain rfl : k = m := by omega
      go_wp2
      go_ret
      refine ⟨HB.out, r, rfl, by have := HR.out; omega, ?_⟩
      exact HI.out
set_option maxHeartbeats 4000000 in
set_option maxRecDepth 100000 in
theorem Great_11 (A0 : Option Addr) (n0 c0 : Nat) (h0 : n0 ≤ 140737488355328) (A : Option Addr) (m cap : Nat) (X : Nat → In) (w : World) (hbd : IBd m X) (hr : IRow w A m cap X) (hA0 : 60 ≤ n0) (hB0 : 150 ≤ m) :
    Calls Try.prog 24 #[.agg #[.slice A0 n0 c0, .slice A m cap]] w (GrP n0 m X w) := by
  obtain ⟨hm, hc, hX⟩ := hr
  have hb0 : Below w.heap.size w (w.alloc (.cells #[.slice A0 n0 c0, .slice A m cap] 61)) := (Below.refl _ _).alloc (Nat.le_refl _) _
  have HB := Lib.hid hb0
  unfold maxLen at hc
  have HX : Hid (0 < m → ∃ b off, A = some ⟨b, off, none⟩ ∧ b < w.heap.size ∧ ∀ i, i < m → ItemAt (w.alloc (.cells #[.slice A0 n0 c0, .slice A m cap] 61)) b (off + i * 5) (X i)) := Lib.hid (fun h => by
    obtain ⟨b, off, e, hl, hi⟩ := hX h
    exact ⟨b, off, e, hl, fun i hi' => (hi i hi').below hb0 hl⟩)
  have hm1 := hbd.1
  have HD := Lib.hid hbd.2
  clear hX hb0 hbd
  go_enter Try.func24, Try.ntmps24
  go_wp2
  go_loop [3, 4] (fun v3 v4 => ∃ (k r : Nat), k ≤ m ∧ k ≤ 150 ∧ v4 = .int .i64 k ∧ v3 = .int .i64 r ∧ Hid ((r : Int) ≤ 281474976710656 + k * 140737488355328) ∧ Hid (r = 0 ↔ n0 ≤ 60 ∧ m ≤ 150 ∧ ∀ i, i < k → (X i).l.length ≤ 110)) (fun _ v4 => m - (intOf v4).toNat)
  case atStart =>
    refine ⟨0, (n0 - 60) + (m - 150), by omega, by omega, rfl, by first | rfl | (congr 1; omega), Lib.hid (by omega), Lib.hid ?_⟩
    constructor
    · intro h; exact ⟨by omega, by omega, fun i hi => by omega⟩
    · rintro ⟨h1, h2, _⟩; omega
  case round =>
    obtain ⟨k, r, hk, hk1, rfl, rfl, HR, HI⟩ := hrel
    by_cases hlt : k < m
    · by_cases hlt2 : k < 150
      · obtain ⟨b, off, rfl, hbl, hi⟩ := HX.out (by omega)
        obtain ⟨B, cp, c0', c1, c2, c3, c4, _⟩ := hi k hlt
        have hln := HD.out k hlt
        have HIK : Hid ((∀ i, i < k + 1 → (X i).l.length ≤ 110) ↔ (∀ i, i < k → (X i).l.length ≤ 110) ∧ (X k).l.length ≤ 110) := Lib.hid ⟨fun h => ⟨fun i hi => h i (by omega), h k (by omega)⟩, fun h i hi => by
          by_cases e : i = k
          · subst e; exact h.2
          · exact h.1 i (by omega)⟩
        clear hi
        generalize (X k).l.length = q at c4 hln HIK
        have hr1 : (r : Int) ≤ 21392098230009856 := by have := HR.out; omega
        by_cases hq : 110 ≤ q
        · go_wp2
          go_round
          case rel =>
            refine ⟨k + 1, r + (q - 110), by omega, by omega, by go_num, by congr 1; omega, Lib.hid (by have := HR.out; omega), Lib.hid ?_⟩
            constructor
            · intro h9; obtain ⟨h1, h2, h3⟩ := HI.out.1 (by omega); exact ⟨h1, h2, HIK.out.2 ⟨h3, by omega⟩⟩
            · rintro ⟨h1, h2, h3⟩; have h5 := HIK.out.1 h3; have h6 := HI.out.2 ⟨h1, h2, h5.1⟩; have := h5.2; omega
          case measure => simp [intOf]; omega
        · go_wp2
          go_round
          case rel =>
            refine ⟨k + 1, r, by omega, by omega, by go_num, by first | rfl | (congr 1; omega), Lib.hid (by have := HR.out; omega), Lib.hid ?_⟩
            have h := HI.out
            constructor
            · intro h9; obtain ⟨h1, h2, h3⟩ := h.1 h9; exact ⟨h1, h2, HIK.out.2 ⟨h3, by omega⟩⟩
            · rintro ⟨h1, h2, h3⟩; exact h.2 ⟨h1, h2, (HIK.out.1 h3).1⟩
          case measure => simp [intOf]; omega
      · obtain rfl : k = 150 := by omega
        first
          | (exfalso; omega)
          | (go_wp2
             go_ret
             refine ⟨HB.out, r, rfl, by have := HR.out; omega, ?_⟩
             have h := HI.out
             constructor
             · intro h9; have := (h.1 h9).2.1; omega
             · rintro ⟨_, h2, _⟩; omega)
    · obtain rfl : k = m := by omega
      go_wp2
      go_ret
      refine ⟨HB.out, r, rfl, by have := HR.out; omega, ?_⟩
      exact HI.out
theorem Great_ok (A0 : Option Addr) (n0 c0 : Nat) (h0 : n0 ≤ 140737488355328) (A : Option Addr) (m cap : Nat) (X : Nat → In) (w : World) (hbd : IBd m X) (hr : IRow w A m cap X) :
    Calls Try.prog 24 #[.agg #[.slice A0 n0 c0, .slice A m cap]] w (GrP n0 m X w) := by
  rcases Nat.lt_or_ge n0 60 with h1 | h1 <;> rcases Nat.lt_or_ge m 150 with h2 | h2
  · exact Great_00 A0 n0 c0 h0 A m cap X w hbd hr h1 h2
  · exact Great_01 A0 n0 c0 h0 A m cap X w hbd hr h1 h2
  · exact Great_10 A0 n0 c0 h0 A m cap X w hbd hr h1 h2
  · exact Great_11 A0 n0 c0 h0 A m cap X w hbd hr h1 h2
end Go.Proofs.Ytackompihengfaa
