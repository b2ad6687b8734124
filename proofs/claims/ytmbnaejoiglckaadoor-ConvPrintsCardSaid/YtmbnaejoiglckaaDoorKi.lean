/-
  The document's own Parse.
-/
import Derived.Test.YtmbnaejoiglckaaDoorKh
namespace Go.Proofs.YtmbnaejoiglckaaDoor
open Go.RowKit Go.ChangeShapes Go.WideShapes Go.ChangeAt
set_option linter.unusedVariables false
set_option linter.unusedSimpArgs false
theorem take2 (s : List UInt8) (h : 2 ≤ s.length) : (bs s).extract 0 2 = bs (s.take 2) := by
  apply ByteArray.ext
  simp [bs, ByteArray.data_extract]
set_option maxHeartbeats 4000000 in
set_option maxRecDepth 100000 in
theorem RParse_32 (s : List UInt8) (hs : s.length ≤ 100) (w : World) : Calls Tryd.prog 32 #[.int .i64 32, .string (bs s)] w (RdP (dz 4294967295 s) w) := by
  have hsz := bs_size s
  by_cases c1 : ∃ t, s = 48 :: 120 :: t
  · obtain ⟨t, rfl⟩ := c1
    rw [dz_hex]
    have R : Hid (Calls Tryd.prog 50 #[.string (bs t), .int .u64 16, .int .u64 4294967295] w (RdP (rdB 16 4294967295 t) w)) := Lib.hid (Read16 t (by simp at hs; omega) 4294967295 (by decide) (by decide) w)
    have hx2 : (bs (48 :: 120 :: t)).extract 0 2 = bs [48, 120] := take2 _ (by simp)
    have hq2 : ((bs [48, 120]).toList == [48, 120]) = true := by rw [bs_list]; rfl
    have hx3 := ext_drop (48 :: 120 :: t) 2
    rw [List.drop_succ_cons, List.drop_succ_cons, List.drop_zero, ← hsz] at hx3
    have h2 : (1 : Int) < ((bs (48 :: 120 :: t)).size : Int) := by rw [hsz]; simp; omega
    have h3 : 2 ≤ (bs (48 :: 120 :: t)).size := by rw [hsz]; simp
    have h9 : (bs (48 :: 120 :: t)).size ≤ 100 := by rw [hsz]; exact hs
    generalize rdB 16 4294967295 t = O at R ⊢
    generalize bs t = T at R hx3
    generalize bs [48, 120] = X2 at hx2 hq2
    generalize bs (48 :: 120 :: t) = S at hx2 hx3 h2 h3 h9 ⊢
    clear hsz hs
    go_enter Tryd.func32, Tryd.ntmps32
    go_wp2_with (go_at_call 50; (with_reducible refine R.out.mono ?_); rintro e w1 ⟨rfl, rfl⟩)
    go_ret2
    exact ⟨rfl, rfl⟩
  · have hq2 : 2 ≤ s.length → ((bs (s.take 2)).toList == [48, 120]) = false := fun h => by
      rw [bs_list, beq_eq_false_iff_ne]
      intro e
      refine c1 ⟨s.drop 2, ?_⟩
      conv => lhs; rw [← List.take_append_drop 2 s, e]
      rfl
    have hb := Go.PlainAid.get_bt (bs s)
    have hb0 := bt_bs s 0
    by_cases c2 : ∃ t, s = 45 :: t
    · obtain ⟨t, rfl⟩ := c2
      have e45 : (Go.PlainAid.bt (bs (45 :: t)) 0 == 45) = true := by rw [hb0]; rfl
      rw [dz_neg]
      have R0 : Calls Tryd.prog 50 #[.string (bs t), .int .u64 10, .int .u64 2147483648] w (RdP (rdB 10 2147483648 t) w) := Read10 t (by simp at hs; omega) 2147483648 (by decide) (by decide) w
      have hx3 := ext_drop (45 :: t) 1
      rw [List.drop_succ_cons, List.drop_zero, ← hsz] at hx3
      have h0 : (0 : Int) < ((bs (45 :: t)).size : Int) := by rw [hsz]; simp
      have h0' : 1 ≤ (bs (45 :: t)).size := by rw [hsz]; simp
      have h9 : (bs (45 :: t)).size ≤ 100 := by rw [hsz]; exact hs
      have hle : ∀ v, rdB 10 2147483648 t = some v → v ≤ 2147483648 := fun v h => ((rd10_iff 2147483648 (by decide) t v).1 h).2
      rw [show 4294967295 / 2 + 1 = 2147483648 from rfl]
      have R := Lib.hid R0
      clear R0 hb0 c1
      by_cases g : 2 ≤ (45 :: t).length
      · have hq3 := hq2 g
        have hx2 := take2 _ g
        have h2 : (1 : Int) < ((bs (45 :: t)).size : Int) := by rw [hsz]; omega
        have h3 : 2 ≤ (bs (45 :: t)).size := by rw [hsz]; exact g
        generalize bs ((45 :: t).take 2) = X2 at hx2 hq3
        generalize rdB 10 2147483648 t = O at R hle ⊢
        generalize bs t = T at R hx3
        generalize bs (45 :: t) = S at hx2 hx3 h0 h0' h2 h3 h9 hb e45 ⊢
        clear hsz hs hq2 g
        go_enter Tryd.func32, Tryd.ntmps32
        go_wp2_with fail
        (with_reducible refine R.out.mono ?_)
        rintro e w1 ⟨rfl, rfl⟩
        cases O with
        | none => go_wp2; go_ret2; exact ⟨rfl, rfl⟩
        | some v =>
          have hv := hle v rfl
          by_cases hv0 : v = 0
          · subst hv0; go_wp2; go_ret2; exact ⟨rfl, rfl⟩
          · have e0 : ((v : Int) == 0) = false := by simp; omega
            simp only [if_neg hv0]
            have e1 : (4294967295 : Int) - (v : Int) + 1 = ((4294967295 - v + 1 : Nat) : Int) := by omega
            go_wp2; go_ret2
            exact ⟨rfl, rfl⟩
      · have h2 : ¬ (1 : Int) < ((bs (45 :: t)).size : Int) := by rw [hsz]; omega
        generalize rdB 10 2147483648 t = O at R hle ⊢
        generalize bs t = T at R hx3
        generalize bs (45 :: t) = S at hx3 h0 h0' h2 h9 hb e45 ⊢
        clear hsz hs hq2 g
        go_enter Tryd.func32, Tryd.ntmps32
        go_wp2_with fail
        (with_reducible refine R.out.mono ?_)
        rintro e w1 ⟨rfl, rfl⟩
        cases O with
        | none => go_wp2; go_ret2; exact ⟨rfl, rfl⟩
        | some v =>
          have hv := hle v rfl
          by_cases hv0 : v = 0
          · subst hv0; go_wp2; go_ret2; exact ⟨rfl, rfl⟩
          · have e0 : ((v : Int) == 0) = false := by simp; omega
            simp only [if_neg hv0]
            have e1 : (4294967295 : Int) - (v : Int) + 1 = ((4294967295 - v + 1 : Nat) : Int) := by omega
            go_wp2; go_ret2
            exact ⟨rfl, rfl⟩
    · rw [dz_else 4294967295 s (fun t e => c1 ⟨t, e⟩) (fun t e => c2 ⟨t, e⟩)]
      have R : Hid (Calls Tryd.prog 50 #[.string (bs s), .int .u64 10, .int .u64 4294967295] w (RdP (rdB 10 4294967295 s) w)) := Lib.hid (Read10 s (by omega) 4294967295 (by decide) (by decide) w)
      have e45 : 1 ≤ s.length → (Go.PlainAid.bt (bs s) 0 == 45) = false := fun h => by
        rw [hb0, beq_eq_false_iff_ne]
        intro e
        rcases s with _ | ⟨c, t⟩
        · simp at h
        · refine c2 ⟨t, ?_⟩
          have : c.toNat = 45 := by
            have e9 : ((c.toNat : Nat) : Int) = 45 := by simpa using e
            omega
          rw [show c = 45 from UInt8.toNat_inj.1 this]
      generalize rdB 10 4294967295 s = O at R ⊢
      have hcase : s.length = 0 ∨ s.length = 1 ∨ 2 ≤ s.length := by omega
      have h9 : (bs s).size ≤ 100 := by rw [hsz]; exact hs
      rcases hcase with g | g | g
      · have h2 : ¬ (1 : Int) < ((bs s).size : Int) := by rw [hsz]; omega
        have h0 : ¬ (0 : Int) < ((bs s).size : Int) := by rw [hsz]; omega
        generalize bs s = S at R h2 h0 h9 ⊢
        clear hsz hs hq2 g e45 hb0 hb c1 c2
        go_enter Tryd.func32, Tryd.ntmps32
        go_wp2_with (go_at_call 50; (with_reducible refine R.out.mono ?_); rintro e w1 ⟨rfl, rfl⟩)
        go_ret2
        exact ⟨rfl, rfl⟩
      · have h2 : ¬ (1 : Int) < ((bs s).size : Int) := by rw [hsz]; omega
        have h0 : (0 : Int) < ((bs s).size : Int) := by rw [hsz]; omega
        have h0' : 1 ≤ (bs s).size := by rw [hsz]; omega
        have e4 := e45 (by omega)
        generalize bs s = S at R h2 h0 h0' h9 hb e4 ⊢
        clear hsz hs hq2 g e45 hb0 c1 c2
        go_enter Tryd.func32, Tryd.ntmps32
        go_wp2_with (go_at_call 50; (with_reducible refine R.out.mono ?_); rintro e w1 ⟨rfl, rfl⟩)
        go_ret2
        exact ⟨rfl, rfl⟩
      · have h2 : (1 : Int) < ((bs s).size : Int) := by rw [hsz]; omega
        have h0 : (0 : Int) < ((bs s).size : Int) := by rw [hsz]; omega
        have h0' : 1 ≤ (bs s).size := by rw [hsz]; omega
        have h3 : 2 ≤ (bs s).size := by rw [hsz]; omega
        have e4 := e45 (by omega)
        have hq3 := hq2 g
        have hx2 := take2 _ g
        generalize bs (s.take 2) = X2 at hx2 hq3
        generalize bs s = S at R h2 h0 h0' h3 h9 hb e4 hx2 ⊢
        clear hsz hs hq2 g e45 hb0 c1 c2
        go_enter Tryd.func32, Tryd.ntmps32
        go_wp2_with (go_at_call 50; (with_reducible refine R.out.mono ?_); rintro e w1 ⟨rfl, rfl⟩)
        go_ret2
        exact ⟨rfl, rfl⟩
set_option maxHeartbeats 4000000 in
set_option maxRecDepth 100000 in
theorem RParse_64 (s : List UInt8) (hs : s.length ≤ 100) (w : World) : Calls Tryd.prog 32 #[.int .i64 64, .string (bs s)] w (RdP (dz 18446744073709551615 s) w) := by
  have hsz := bs_size s
  by_cases c1 : ∃ t, s = 48 :: 120 :: t
  · obtain ⟨t, rfl⟩ := c1
    rw [dz_hex]
    have R : Hid (Calls Tryd.prog 50 #[.string (bs t), .int .u64 16, .int .u64 18446744073709551615] w (RdP (rdB 16 18446744073709551615 t) w)) := Lib.hid (Read16 t (by simp at hs; omega) 18446744073709551615 (by decide) (by decide) w)
    have hx2 : (bs (48 :: 120 :: t)).extract 0 2 = bs [48, 120] := take2 _ (by simp)
    have hq2 : ((bs [48, 120]).toList == [48, 120]) = true := by rw [bs_list]; rfl
    have hx3 := ext_drop (48 :: 120 :: t) 2
    rw [List.drop_succ_cons, List.drop_succ_cons, List.drop_zero, ← hsz] at hx3
    have h2 : (1 : Int) < ((bs (48 :: 120 :: t)).size : Int) := by rw [hsz]; simp; omega
    have h3 : 2 ≤ (bs (48 :: 120 :: t)).size := by rw [hsz]; simp
    have h9 : (bs (48 :: 120 :: t)).size ≤ 100 := by rw [hsz]; exact hs
    generalize rdB 16 18446744073709551615 t = O at R ⊢
    generalize bs t = T at R hx3
    generalize bs [48, 120] = X2 at hx2 hq2
    generalize bs (48 :: 120 :: t) = S at hx2 hx3 h2 h3 h9 ⊢
    clear hsz hs
    go_enter Tryd.func32, Tryd.ntmps32
    go_wp2_with (go_at_call 50; (with_reducible refine R.out.mono ?_); rintro e w1 ⟨rfl, rfl⟩)
    go_ret2
    exact ⟨rfl, rfl⟩
  · have hq2 : 2 ≤ s.length → ((bs (s.take 2)).toList == [48, 120]) = false := fun h => by
      rw [bs_list, beq_eq_false_iff_ne]
      intro e
      refine c1 ⟨s.drop 2, ?_⟩
      conv => lhs; rw [← List.take_append_drop 2 s, e]
      rfl
    have hb := Go.PlainAid.get_bt (bs s)
    have hb0 := bt_bs s 0
    by_cases c2 : ∃ t, s = 45 :: t
    · obtain ⟨t, rfl⟩ := c2
      have e45 : (Go.PlainAid.bt (bs (45 :: t)) 0 == 45) = true := by rw [hb0]; rfl
      rw [dz_neg]
      have R0 : Calls Tryd.prog 50 #[.string (bs t), .int .u64 10, .int .u64 9223372036854775808] w (RdP (rdB 10 9223372036854775808 t) w) := Read10 t (by simp at hs; omega) 9223372036854775808 (by decide) (by decide) w
      have hx3 := ext_drop (45 :: t) 1
      rw [List.drop_succ_cons, List.drop_zero, ← hsz] at hx3
      have h0 : (0 : Int) < ((bs (45 :: t)).size : Int) := by rw [hsz]; simp
      have h0' : 1 ≤ (bs (45 :: t)).size := by rw [hsz]; simp
      have h9 : (bs (45 :: t)).size ≤ 100 := by rw [hsz]; exact hs
      have hle : ∀ v, rdB 10 9223372036854775808 t = some v → v ≤ 9223372036854775808 := fun v h => ((rd10_iff 9223372036854775808 (by decide) t v).1 h).2
      rw [show 18446744073709551615 / 2 + 1 = 9223372036854775808 from rfl]
      have R := Lib.hid R0
      clear R0 hb0 c1
      by_cases g : 2 ≤ (45 :: t).length
      · have hq3 := hq2 g
        have hx2 := take2 _ g
        have h2 : (1 : Int) < ((bs (45 :: t)).size : Int) := by rw [hsz]; omega
        have h3 : 2 ≤ (bs (45 :: t)).size := by rw [hsz]; exact g
        generalize bs ((45 :: t).take 2) = X2 at hx2 hq3
        generalize rdB 10 9223372036854775808 t = O at R hle ⊢
        generalize bs t = T at R hx3
        generalize bs (45 :: t) = S at hx2 hx3 h0 h0' h2 h3 h9 hb e45 ⊢
        clear hsz hs hq2 g
        go_enter Tryd.func32, Tryd.ntmps32
        go_wp2_with fail
        (with_reducible refine R.out.mono ?_)
        rintro e w1 ⟨rfl, rfl⟩
        cases O with
        | none => go_wp2; go_ret2; exact ⟨rfl, rfl⟩
        | some v =>
          have hv := hle v rfl
          by_cases hv0 : v = 0
          · subst hv0; go_wp2; go_ret2; exact ⟨rfl, rfl⟩
          · have e0 : ((v : Int) == 0) = false := by simp; omega
            simp only [if_neg hv0]
            have e1 : (18446744073709551615 : Int) - (v : Int) + 1 = ((18446744073709551615 - v + 1 : Nat) : Int) := by omega
            go_wp2; go_ret2
            exact ⟨rfl, rfl⟩
      · have h2 : ¬ (1 : Int) < ((bs (45 :: t)).size : Int) := by rw [hsz]; omega
        generalize rdB 10 9223372036854775808 t = O at R hle ⊢
        generalize bs t = T at R hx3
        generalize bs (45 :: t) = S at hx3 h0 h0' h2 h9 hb e45 ⊢
        clear hsz hs hq2 g
        go_enter Tryd.func32, Tryd.ntmps32
        go_wp2_with fail
        (with_reducible refine R.out.mono ?_)
        rintro e w1 ⟨rfl, rfl⟩
        cases O with
        | none => go_wp2; go_ret2; exact ⟨rfl, rfl⟩
        | some v =>
          have hv := hle v rfl
          by_cases hv0 : v = 0
          · subst hv0; go_wp2; go_ret2; exact ⟨rfl, rfl⟩
          · have e0 : ((v : Int) == 0) = false := by simp; omega
            simp only [if_neg hv0]
            have e1 : (18446744073709551615 : Int) - (v : Int) + 1 = ((18446744073709551615 - v + 1 : Nat) : Int) := by omega
            go_wp2; go_ret2
            exact ⟨rfl, rfl⟩
    · rw [dz_else 18446744073709551615 s (fun t e => c1 ⟨t, e⟩) (fun t e => c2 ⟨t, e⟩)]
      have R : Hid (Calls Tryd.prog 50 #[.string (bs s), .int .u64 10, .int .u64 18446744073709551615] w (RdP (rdB 10 18446744073709551615 s) w)) := Lib.hid (Read10 s (by omega) 18446744073709551615 (by decide) (by decide) w)
      have e45 : 1 ≤ s.length → (Go.PlainAid.bt (bs s) 0 == 45) = false := fun h => by
        rw [hb0, beq_eq_false_iff_ne]
        intro e
        rcases s with _ | ⟨c, t⟩
        · simp at h
        · refine c2 ⟨t, ?_⟩
          have : c.toNat = 45 := by
            have e9 : ((c.toNat : Nat) : Int) = 45 := by simpa using e
            omega
          rw [show c = 45 from UInt8.toNat_inj.1 this]
      generalize rdB 10 18446744073709551615 s = O at R ⊢
      have hcase : s.length = 0 ∨ s.length = 1 ∨ 2 ≤ s.length := by omega
      have h9 : (bs s).size ≤ 100 := by rw [hsz]; exact hs
      rcases hcase with g | g | g
      · have h2 : ¬ (1 : Int) < ((bs s).size : Int) := by rw [hsz]; omega
        have h0 : ¬ (0 : Int) < ((bs s).size : Int) := by rw [hsz]; omega
        generalize bs s = S at R h2 h0 h9 ⊢
        clear hsz hs hq2 g e45 hb0 hb c1 c2
        go_enter Tryd.func32, Tryd.ntmps32
        go_wp2_with (go_at_call 50; (with_reducible refine R.out.mono ?_); rintro e w1 ⟨rfl, rfl⟩)
        go_ret2
        exact ⟨rfl, rfl⟩
      · have h2 : ¬ (1 : Int) < ((bs s).size : Int) := by rw [hsz]; omega
        have h0 : (0 : Int) < ((bs s).size : Int) := by rw [hsz]; omega
        have h0' : 1 ≤ (bs s).size := by rw [hsz]; omega
        have e4 := e45 (by omega)
        generalize bs s = S at R h2 h0 h0' h9 hb e4 ⊢
        clear hsz hs hq2 g e45 hb0 c1 c2
        go_enter Tryd.func32, Tryd.ntmps32
        go_wp2_with (go_at_call 50; (with_reducible refine R.out.mono ?_); rintro e w1 ⟨rfl, rfl⟩)
        go_ret2
        exact ⟨rfl, rfl⟩
      · have h2 : (1 : Int) < ((bs s).size : Int) := by rw [hsz]; omega
        have h0 : (0 : Int) < ((bs s).size : Int) := by rw [hsz]; omega
        have h0' : 1 ≤ (bs s).size := by rw [hsz]; omega
        have h3 : 2 ≤ (bs s).size := by rw [hsz]; omega
        have e4 := e45 (by omega)
        have hq3 := hq2 g
        have hx2 := take2 _ g
        generalize bs (s.take 2) = X2 at hx2 hq3
        generalize bs s = S at R h2 h0 h0' h3 h9 hb e4 hx2 ⊢
        clear hsz hs hq2 g e45 hb0 c1 c2
        go_enter Tryd.func32, Tryd.ntmps32
        go_wp2_with (go_at_call 50; (with_reducible refine R.out.mono ?_); rintro e w1 ⟨rfl, rfl⟩)
        go_ret2
        exact ⟨rfl, rfl⟩
end Go.Proofs.YtmbnaejoiglckaaDoor
