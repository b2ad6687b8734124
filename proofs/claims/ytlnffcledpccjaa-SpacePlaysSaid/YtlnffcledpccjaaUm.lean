/-
  space.Memory.Fill.
-/
import Derived.Test.YtlnffcledpccjaaUl
namespace Go.Proofs.Ytlnffcledpccjaa
set_option linter.unusedVariables false
set_option linter.unusedSimpArgs false
open Go.ChangeShapes Go.WideShapes Go.ChangeAt
open Go.RowKit Go.Shelf
theorem RepZ (A : Option Addr) (w : World) :
    Calls Try.prog 53 #[.slice A 1 1, .int .i64 0] w fun e w' => ∃ B, e = .returned (.slice B 0 0) ∧ Fr (fun _ => False) w w' := by
  go_enter Try.func53, Try.ntmps53
  go_wp2_with fail
  go_ret
  exact ⟨_, rfl, (Fr.refl _ w).alloc _⟩
def RepP (v n : Nat) (w : World) (e : Ending) (w' : World) : Prop :=
  ∃ B, e = .returned (.slice B n n) ∧ (∀ g, B.map (·.block) = some g → 0 < n → w.heap.size ≤ g) ∧ Byt w' B n n (List.replicate n v) ∧ Fr (fun _ => False) w w'
theorem Rep_any (g v n : Nat) (w : World) (hc : w.cell? ⟨g, 0, none⟩ = some (.int .u8 v)) (hg : g < w.heap.size) (hv : v < 256) (hn : n ≤ 1024) :
    Calls Try.prog 53 #[.slice (some ⟨g, 0, none⟩) 1 1, .int .i64 n] w (RepP v n w) := by
  rcases Nat.eq_zero_or_pos n with rfl | h1
  · refine (RepZ _ w).mono ?_
    rintro e w' ⟨B, rfl, hf⟩
    exact ⟨B, rfl, fun _ _ h => absurd h (by omega), ⟨rfl, fun x hx => by simp at hx, Nat.le_refl _, Nat.zero_le _, fun h => absurd h (by omega)⟩, hf⟩
  · refine (Rep_ok g v n w hc hg hv h1 hn).mono ?_
    rintro e w' ⟨g2, rfl, h2, h3, h4⟩
    exact ⟨_, rfl, fun g' e _ => by simp at e; omega, h3, h4⟩
/-- between two rounds of a filling: P the first block, S the slice's -/
structure WJ (w0 w : World) (A : Pa) (bb rm gm nf sz cap : Nat) (C : Nat × Nat → List Nat) (k o : Nat) (X : Nat → Prop) (num M : Nat) (mc : Array Value) (place n L v S : Nat) (B : Option Addr) (fr : Nat) (W : World) : Prop where
  ex : ∃ c, cnt_ place n sz fr c ∧ S1 w0 A bb rm gm nf sz cap (wrm C num sz place (List.replicate n v) fr) (k + c) (o + 3 * c) (fun q => X q ∨ (w.heap.size ≤ q ∧ q < S + 6 ∧ q < W.heap.size)) W
  le : fr ≤ n
  b4 : Blk W w.heap.size 48 #[.pointer (some ⟨M, 0, none⟩)]
  b8 : Blk W (w.heap.size + 1) 59 #[.int .i64 0]
  b9 : Blk W (w.heap.size + 2) 25 #[.int .i64 0]
  bs : Blk W S 34 #[.slice B L L]
  bm : Blk W (S + 1) 48 #[.pointer (some ⟨M, 0, none⟩)]
  bn : Blk W (S + 3) 3 #[.int .i64 n]
  mm : Blk W M 117 mc
  by_ : Byt W B L L (List.replicate L v)
  kx : KX w0 X w W
  sz_ : S + 4 ≤ W.heap.size
theorem WJ.st {w0 w : World} {A : Pa} {bb rm gm nf sz cap : Nat} {C : Nat × Nat → List Nat} {k o : Nat} {X : Nat → Prop} {num M : Nat} {mc : Array Value} {place n L v S : Nat} {B : Option Addr} {fr : Nat} {W W' : World} (h : WJ w0 w A bb rm gm nf sz cap C k o X num M mc place n L v S B fr W) (hM : M < w.heap.size) (hS : w.heap.size + 3 ≤ S) (hBw : ∀ g, B.map (·.block) = some g → 0 < L → g < S) (hf : Fr (fun q => q = S + 2 ∨ q = S + 4 ∨ q = S + 5) W W') : WJ w0 w A bb rm gm nf sz cap C k o X num M mc place n L v S B fr W' := by
  obtain ⟨c, hc, hS1⟩ := h.ex
  have hsz := h.sz_
  have hfs := hf.size
  refine ⟨⟨c, hc, hS1.ext hf (fun q hq => ?_) (fun q hq => ?_)⟩, h.le, h.b4.fr hf (by omega), h.b8.fr hf (by omega), h.b9.fr hf (by omega), h.bs.fr hf (by omega), h.bm.fr hf (by omega), h.bn.fr hf (by omega), h.mm.fr hf (by omega), byt_fr h.by_ hf (fun g e h0 => by have := hBw g e h0; omega), Fr.trans_new h.kx hf (fun q hq => .inr (by omega)), by omega⟩
  · rcases Nat.lt_or_ge q W.heap.size with p | p
    · exact .inl (.inr ⟨by omega, by omega, p⟩)
    · exact .inr p
  · rcases hq with q1 | ⟨q1, q2, q3⟩
    · exact .inl (.inl q1)
    · rcases Nat.lt_or_ge q W.heap.size with p | p
      · exact .inl (.inr ⟨q1, q2, p⟩)
      · exact .inr ⟨p, q3⟩
set_option maxHeartbeats 4000000 in
set_option maxRecDepth 100000 in
theorem Fill_ok {w0 w : World} {A : Pa} {bb rm gm nf sz cap k o : Nat} {C : Nat × Nat → List Nat} {X : Nat → Prop} (h : S1 w0 A bb rm gm nf sz cap C k o X w) (M num pages most capped place n v : Nat) (wide : Bool) (hM : Blk w M 117 (mmC A.p num pages most capped wide)) (hX : X M) (hv : v < 256) (hp : pages ≤ 65536) (hb : place + n ≤ pages * 65536) (hsz : 16 ≤ sz) (hsz2 : sz ≤ 1024) (hnum : num ≤ 9223372036854775807) (hn : n ≤ 1048576) (ho : o + 3 * (n / sz + 2) < 900000) (hk : k + (n / sz + 2) ≤ cap) :
    Calls Try.prog 31 #[.pointer (some ⟨M, 0, none⟩), .int .u64 place, .int .u8 v, .int .u64 n] w (StP w0 A bb rm gm nf sz cap (wrm C num sz place (List.replicate n v) n) (k + (n / sz + 2)) (o + 3 * (n / sz + 2)) X w) := by
  have H := Lib.hid h
  have HM := Lib.hid hM
  have hMw : M < w.heap.size := hM.lt
  have HCl0 := Lib.hid (show ∀ x, (C x).length = sz from fun x => by
    obtain ⟨d, ad, W_, g1, g2, g3, g4, _⟩ := h.ex
    rw [(g1.pi.len x).1, g4])
  obtain ⟨L, hL⟩ : ∃ L, L = min n sz := ⟨_, rfl⟩
  have hL1 : L ≤ 1024 := by omega
  have hbf : bey pages place 0 n = false := decide_eq_false (by omega)
  have hpl : place + n ≤ 4611686018427387904 := by omega
  have hn1 : ¬ (1048576 : Int) < (n : Int) := by omega
  have HBE := Lib.hid (fun W (hW : Blk W M 117 (mmC A.p num pages most capped wide)) => (beyond_ok M A.p num pages most capped place 0 n wide hW hp (by omega) (by omega) (by omega)))
  rw [hbf] at HBE
  clear h hM hb hbf
  refine callsIn_wide.1 (callsIn_of_wp_marks (n := 3) Try.func31 rfl trivial (wpIn_wide.2 ?_))
  simp only [Try.ntmps31, List.size_toArray, List.length_cons, List.length_nil, Nat.reduceAdd, Nat.reduceSub, Array.replicate_succ, Array.replicate_zero, List.push_toArray, List.append_toArray, List.nil_append, List.cons_append]
  go_wp2_with fail
  obtain ⟨w1, hw1⟩ : ∃ w1, w1 = w.alloc (Obj.cells #[.pointer (some ⟨M, 0, none⟩)] 48) := ⟨_, rfl⟩
  have hs1 : w1.heap.size = w.heap.size + 1 := by rw [hw1, World.size_alloc]
  have hf1 : Fr (fun _ => False) w w1 := by rw [hw1]; exact (Fr.refl _ w).alloc _
  have hb1 : Blk w1 w.heap.size 48 #[.pointer (some ⟨M, 0, none⟩)] := by rw [hw1]; exact Blk.new w 48 _
  obtain ⟨w2, hw2⟩ : ∃ w2, w2 = w1.alloc (Obj.cells #[.int .i64 0] 59) := ⟨_, rfl⟩
  have hs2 : w2.heap.size = w.heap.size + 2 := by rw [hw2, World.size_alloc, hs1]
  have hb2 : Blk w2 (w.heap.size + 1) 59 #[.int .i64 0] := by rw [hw2, ← hs1]; exact Blk.new w1 59 _
  have hf2 : Fr (fun _ => False) w1 w2 := by rw [hw2]; exact (Fr.refl _ w1).alloc _
  obtain ⟨w3, hw3⟩ : ∃ w3, w3 = w2.alloc (Obj.cells #[.int .i64 0] 25) := ⟨_, rfl⟩
  have hs3 : w3.heap.size = w.heap.size + 3 := by rw [hw3, World.size_alloc, hs2]
  have hb3 : Blk w3 (w.heap.size + 2) 25 #[.int .i64 0] := by rw [hw3, ← hs2]; exact Blk.new w2 25 _
  have hf3 : Fr (fun _ => False) w2 w3 := by rw [hw3]; exact (Fr.refl _ w2).alloc _
  have hF3 := (hf1.trans hf2).trans hf3
  have HB1 := Lib.hid ((hb1.fr hf2 (fun q => q)).fr hf3 (fun q => q))
  have HB2 := Lib.hid (hb2.fr hf3 (fun q => q))
  have HB3 := Lib.hid hb3
  have HF3 := Lib.hid hF3
  have HS3 := Lib.hid hs3
  rw [← hw1, ← hw2, ← hw3]
  clear hw1 hw2 hw3 hs1 hs2 hs3 hf1 hf2 hf3 hb1 hb2 hb3 hF3
  refine (HBE.out w3 (HM.out.fr HF3.out (fun q => q))).mono ?_
  rintro e w4 ⟨rfl, rfl⟩
  have hsz3 : w3.heap.size = w.heap.size + 3 := HS3.out
  obtain ⟨w5, hw5⟩ : ∃ w5, w5 = w3.alloc (Obj.cells #[.int .u8 v] 5) := ⟨_, rfl⟩
  have hs5 : w5.heap.size = w.heap.size + 4 := by rw [hw5, World.size_alloc, hsz3]
  have hb5 : Blk w5 (w.heap.size + 3) 5 #[.int .u8 v] := by rw [hw5, ← hsz3]; exact Blk.new w3 5 _
  have hf5 : Fr (fun _ => False) w3 w5 := by rw [hw5]; exact (Fr.refl _ w3).alloc _
  have HF5 := Lib.hid (HF3.out.trans hf5)
  have x0 : w5.cell? ⟨w.heap.size, 0, none⟩ = some (.pointer (some ⟨M, 0, none⟩)) := (HB1.out.fr hf5 (fun q => q)).cell 0
  have x1 : w5.cell? ⟨M, 0, none⟩ = some (.pointer (some ⟨A.p, 0, none⟩)) := (HM.out.fr HF5.out (fun q => q)).cell 0
  have HW5 := Lib.hid hw5
  have HPS : Hid (Calls Try.prog 54 #[.pointer (some ⟨A.p, 0, none⟩)] w5 fun e w' => e = .returned (.int .i64 sz) ∧ w5 = w') := Lib.hid (by
    obtain ⟨d, ad, W_, g1, g2, g3, g4, _⟩ := (H.out.ext HF5.out (X' := X) (fun _ q => q.elim) (fun q hq => .inl hq)).ex
    have hps := PSize_ok g1.lay
    rw [g4] at hps
    exact hps)
  have HRP := Lib.hid (Rep_any (w.heap.size + 3) v L w5 (hb5.cell 0) (by omega) hv hL1)
  have hmin : (if (sz : Int) < (n : Int) then (sz : Int) else (n : Int)) = (L : Int) := by split <;> omega
  have hmin2 : (if sz < n then (sz : Int) else (n : Int)) = (L : Int) := by split <;> omega
  have HL := Lib.hid hL
  have HB15 := Lib.hid (HB1.out.fr hf5 (fun q => q))
  clear hw5 hb5 hf5 x0 x1 hL
  have y0 : w3.cell? ⟨w.heap.size, 0, none⟩ = some (.pointer (some ⟨M, 0, none⟩)) := HB1.out.cell 0
  have y1 : w3.cell? ⟨M, 0, none⟩ = some (.pointer (some ⟨A.p, 0, none⟩)) := (HM.out.fr HF3.out (fun q => q)).cell 0
  have hne : M ≠ w.heap.size + 3 := by omega
  have hlt3 : M < w3.heap.size := by omega
  have x1 : (w3.alloc (Obj.cells #[.int .u8 v] 5)).cell? ⟨M, 0, none⟩ = some (.pointer (some ⟨A.p, 0, none⟩)) := by rw [← HW5.out]; exact (HM.out.fr HF5.out (fun q => q)).cell 0
  have z8 : w3.frozen? ⟨w.heap.size + 1, 0, none⟩ = false := HB2.out.frozen 0
  go_wp2_with (first
    | (go_at_call 54; rw [← HW5.out]; refine HPS.out.mono ?_; rintro e w6 ⟨rfl, rfl⟩)
    | (go_at_call 53; (with_reducible refine HRP.out.mono ?_); rintro e w7 ⟨B, rfl, hB1, hB2, hB3⟩
       obtain ⟨w8, hw8⟩ : ∃ w8, w8 = w7.alloc (Obj.cells #[.slice B L L] 34) := ⟨_, rfl⟩
       have HW8 := Lib.hid hw8
       have HB8 := Lib.hid (And.intro hB1 (And.intro hB2 hB3))
       have y3 : (w7.alloc (Obj.cells #[.slice B L L] 34)).cell? ⟨w.heap.size, 0, none⟩ = some (.pointer (some ⟨M, 0, none⟩)) := ((HB15.out.fr hB3 (fun q => q)).fr ((Fr.refl (fun _ => False) w7).alloc _) (fun q => q)).cell 0
       clear hw8 hB1 hB2 hB3)
    | (go_at_call 55; rw [← HW8.out]; refine (parts_ok M place n _ (by omega) (by omega)).mono ?_; rintro e w9 ⟨rfl, hw9⟩; have HW9 := Lib.hid hw9; clear hw9))
  have hB8 := HB8.out
  have hw9 := HW9.out
  have hw8 := HW8.out
  have hw0 : w0.heap.size ≤ w.heap.size := H.out.lt
  obtain ⟨S, hS⟩ : ∃ S, S = w7.heap.size := ⟨_, rfl⟩
  have hs7 : w.heap.size + 4 ≤ S := by have := hB8.2.2.size; omega
  have hs8 : w8.heap.size = S + 1 := by rw [hw8, World.size_alloc, hS]
  have hbs8 : Blk w8 S 34 #[.slice B L L] := by rw [hw8, hS]; exact Blk.new w7 34 _
  have hf8 : Fr (fun _ => False) w7 w8 := by rw [hw8]; exact (Fr.refl _ w7).alloc _
  have hBw : ∀ g, B.map (·.block) = some g → 0 < L → w.heap.size + 4 ≤ g ∧ g < S := fun g e h0 => by
    refine ⟨by have := hB8.1 g e h0; omega, ?_⟩
    obtain ⟨g', off, e', hlt, _⟩ := hB8.2.1.2.2.2.2 h0
    rw [e'] at e
    simp at e
    omega
  rw [hs8, ← hS]
  obtain ⟨wb, hwb⟩ : ∃ wb, wb = w8.alloc (.cells #[.pointer (some ⟨M, 0, none⟩)] 48) := ⟨_, rfl⟩
  rw [← hwb] at hw9
  have hbmb : Blk wb (S + 1) 48 #[.pointer (some ⟨M, 0, none⟩)] := by rw [hwb, ← hs8]; exact Blk.new w8 48 _
  have hsb : wb.heap.size = S + 2 := by rw [hwb, World.size_alloc, hs8]
  have hfb : Fr (fun _ => False) w8 wb := by rw [hwb]; exact (Fr.refl _ w8).alloc _
  obtain ⟨wc, hwc⟩ : ∃ wc, wc = wb.alloc (.cells #[.int .u64 place] 56) := ⟨_, rfl⟩
  rw [← hwc] at hw9
  have hbpc : Blk wc (S + 2) 56 #[.int .u64 place] := by rw [hwc, ← hsb]; exact Blk.new wb 56 _
  have hsc : wc.heap.size = S + 3 := by rw [hwc, World.size_alloc, hsb]
  have hfc : Fr (fun _ => False) wb wc := by rw [hwc]; exact (Fr.refl _ wb).alloc _
  have hbn9 : Blk w9 (S + 3) 3 #[.int .i64 n] := by rw [hw9, ← hsc]; exact Blk.new wc 3 _
  have hs9 : w9.heap.size = S + 4 := by rw [hw9, World.size_alloc, hsc]
  have hf9 : Fr (fun _ => False) wc w9 := by rw [hw9]; exact (Fr.refl _ wc).alloc _
  have hg8 : Fr (fun _ => False) w8 w9 := (hfb.trans hfc).trans hf9
  have hg7 := hf8.trans hg8
  have hg5 := hB8.2.2.trans hg7
  have hfw := HF5.out.trans hg5
  have hg3 : Fr (fun _ => False) w3 w9 := by
    have : Fr (fun _ => False) w3 w5 := by rw [HW5.out]; exact (Fr.refl _ w3).alloc _
    exact this.trans hg5
  have hWJ : WJ w0 w A bb rm gm nf sz cap C k o X num M (mmC A.p num pages most capped wide) place n L v S B 0 w9 :=
    ⟨⟨0, cnt_.nil _ _ _, (H.out.con (wrm_zero HCl0.out).symm).ext hfw (fun q hq => hq.elim) (fun q hq => by
      rcases hq with q1 | ⟨q1, q2, q3⟩
      · exact .inl q1
      · exact .inr ⟨q1, q3⟩)⟩, Nat.zero_le _, HB1.out.fr hg3 (fun q => q), HB2.out.fr hg3 (fun q => q), HB3.out.fr hg3 (fun q => q), hbs8.fr hg8 (fun q => q), (hbmb.fr hfc (fun q => q)).fr hf9 (fun q => q), hbn9, HM.out.fr hfw (fun q => q), byt_fr hB8.2.1 hg7 (fun _ _ _ q => q), (KX.refl w0 X w).new hfw, by omega⟩
  have hbp9 : Blk w9 (S + 2) 56 #[.int .u64 place] := hbpc.fr hf9 (fun q => q)
  have HWJ := Lib.hid hWJ
  have HBP := Lib.hid hbp9
  have HBw := Lib.hid hBw
  have hBw2 : ∀ g, B.map (·.block) = some g → 0 < L → g < S := fun g e h0 => (HBw.out g e h0).2
  have HBw2 := Lib.hid hBw2
  have hW9s := hs9
  have hS3 : w.heap.size + 3 ≤ S := by omega
  clear hWJ hbp9 hbn9 hbpc hbmb hbs8 hfw hg3 hg5 hg7 hg8 hf9 hfc hfb hf8 hw9 hwc hwb hw8 HW9 HW8 hB8 HB8 hs8 hsb hsc hs9 hBw hBw2 hS y0 y1 x1 z8 y3 hsz3 hs5 hlt3 HB1 HB2 HB3 HB15 HF3 HF5 HW5 HS3 HPS HRP HBE
  refine wpIn_wide.1 (parts_range (m := 1) 3 (S + 1) (S + 3) (S + 2) M A.p sz n place rfl rfl rfl hsz hsz2 (by omega) hpl (by omega)
    (WJ w0 w A bb rm gm nf sz cap C k o X num M (mmC A.p num pages most capped wide) place n L v S B)
    ?act
    (fun fr W W' hI hf => hI.st hMw hS3 HBw2.out (hf.more (fun q hq => by omega))) ?hc HWJ.out HBP.out ?assign ?body ?done)
  case act => exact fun fr bx => { tmps := #[.pointer (some ⟨M, 0, none⟩), .int .u64 place, .int .u8 v, .int .u64 n, .pointer (some ⟨w.heap.size, 0, none⟩), undef, undef, undef, .pointer (some ⟨w.heap.size + 1, 0, none⟩), .pointer (some ⟨w.heap.size + 1 + 1, 0, none⟩), .pointer (some ⟨S, 0, none⟩), .pointer (some ⟨bx, 0, none⟩), undef, .bool false, .pointer (some ⟨M, 0, none⟩), .bool false, .bool false, .pointer (some ⟨M, 0, none⟩), .int .u64 place, .int .u64 n, .bool false, .bool (decide (1048576 < (n : Int))), .int .u64 n, .bool (decide (1048576 < (n : Int))), .int .u8 v, .slice (some ⟨w.heap.size + 3, 0, none⟩) 1 1, .int .u64 n, .int .i64 n, .pointer (some ⟨M, 0, none⟩), .pointer (some ⟨M, 0, none⟩), .pointer (some ⟨M, 0, none⟩), .pointer (some ⟨A.p, 0, none⟩), .int .i64 sz, .int .i64 L, .slice B L L, .pointer (some ⟨M, 0, none⟩), .int .u64 place, .int .u64 n, .int .i64 n, .func (.func 73) #[] #[.pointer (some ⟨S + 1, 0, none⟩), .pointer (some ⟨S + 1 + 2, 0, none⟩), .pointer (some ⟨S + 1 + 1, 0, none⟩)], prt place n sz fr, undef, undef, undef, undef, undef, undef, undef, undef, undef, undef, undef, undef, undef, undef, undef, undef, undef, undef, undef, undef, undef, undef, undef], defers := [] }
  case hc =>
    intro fr W hI
    obtain ⟨c, hc, hS⟩ := hI.ex
    obtain ⟨d, ad, W_, h1, h2, h3, h4, _⟩ := hS.ex
    have hps := PSize_ok h1.lay
    rw [h4] at hps
    exact ⟨hI.bm.cell 0, hI.mm.cell 0, hI.bn.cell 0, hps⟩
  case assign =>
    intro fr W K hI hK
    refine region_in_list (ndf_of (by kernel_rfl)) (by rintro ⟨_, _, h⟩; exact h) ?_
    have hK1 := hK (W.alloc (Obj.cells (prtC place n sz fr) 130)) ((Fr.refl _ W).alloc _) (Blk.new W 130 _) (World.size_alloc _ _)
    unfold prtC prt at hK1
    unfold prt
    clear hK
    generalize (place + fr) / sz = q1 at hK1 ⊢
    generalize (place + fr) % sz = q2 at hK1 ⊢
    generalize nxt place n sz fr = q3 at hK1 ⊢
    go_wp2
    exact hK1
  case body =>
    intro fr bx W0 W hfr hI hbx hle hf hsW hBx
    obtain ⟨c, hc, hS⟩ := hI.ex
    have hI' := hI.st hMw hS3 HBw2.out (hf.more (fun q hq => by omega))
    have hSW : S1 w0 A bb rm gm nf sz cap (wrm C num sz place (List.replicate n v) fr) (k + c) (o + 3 * c) (fun q => (X q ∨ (w.heap.size ≤ q ∧ q < S + 6 ∧ q < W0.heap.size)) ∨ q = bx) W := hS.ext hf (fun q hq => .inl (.inr ⟨by omega, by omega, by omega⟩)) (fun q hq => by
      rcases hq with q1 | q1
      · exact .inl q1
      · exact .inr ⟨by omega, by omega⟩)
    have HBX := Lib.hid hbx
    clear hbx
    have hLe := HL.out
    have hL0 : 0 < L := by omega
    obtain ⟨gb, off, rfl, hgb, hgc⟩ := hI'.by_.2.2.2.2 hL0
    have hgS := HBw.out gb rfl hL0
    have z0 := hI.sz_
    have x0 := (hI'.b4.drewN 1).cell 0
    have x1 := (hI'.mm.drewN 1).cell 0
    have x2 := (hI'.mm.drewN 1).cell 1
    have hBd := hBx.drewN 1
    have x3 := hBd.cell 0
    have x4 := hBd.cell 1
    have x5 := hBd.cell 2
    have x6 := hBd.cell 3
    have x7 := (hI'.bs.drewN 1).cell 0
    have HN := Lib.hid (nxt_lt (place := place) hfr (by omega : 0 < sz))
    have HCn := Lib.hid (hc.next hfr (by omega : 0 < sz))
    have HCc := Lib.hid hc.2.2
    have hcn := HCn.out.2.2
    have hll : (List.replicate n v).length = n := by simp
    have HWn := Lib.hid (wrm_next (C := C) (num := num) (place := place) (l := List.replicate n v) (fr := fr) (t := nxt place n sz fr) HCl0.out (by omega : 0 < sz) HN.out.1 (by rw [hll]; exact HN.out.2.1) HN.out.2.2)
    obtain ⟨t, ht⟩ : ∃ t, t = nxt place n sz fr := ⟨_, rfl⟩
    obtain ⟨q, hq⟩ : ∃ q, q = (place + fr) / sz := ⟨_, rfl⟩
    obtain ⟨r, hr⟩ : ∃ r, r = (place + fr) % sz := ⟨_, rfl⟩
    unfold prtC at x3 x4 x5 x6
    rw [← ht] at HN HCn HWn
    rw [← ht, ← hq, ← hr] at x3 x4 x5 x6
    rw [← hr] at HN
    rw [← hr, ← hq] at HWn
    have HT := Lib.hid ht
    have hqp : q ≤ 4611686018427387904 := by rw [hq]; have := Nat.div_le_self (place + fr) sz; omega
    obtain ⟨n1, n2, n3⟩ := HN.out
    have htL : t - fr ≤ L := by omega
    have hsub : IntKind.i64.wrap ((t : Int) - (fr : Int)) = (t : Int) - (fr : Int) := by rw [IntKind.wrap_i64]; omega
    have hcut : ∀ W, (Instr.slice 34 (.slice (some ⟨gb, off, none⟩) L L) none (some (.int .i64 ((t : Int) - (fr : Int)))) none).run Try.prog W = .ok (.slice (some ⟨gb, off, none⟩) (t - fr) L) W := fun W => by
      have e : ((t : Int) - (fr : Int)).toNat = t - fr := by omega
      rw [run_slice_h (P := Try.prog) W 34 (some ⟨gb, off, none⟩) L L el34 .i64 _ (by omega) (by omega), sz34]
      simp [Result.andThen, sliced, Addr.add, e]
    have hwl : ((List.replicate n v).drop fr).take (t - fr) = List.replicate (t - fr) v := by
      rw [List.drop_replicate, List.take_replicate, Nat.min_eq_left (by omega)]
    have hcb : Byt W (some ⟨gb, off, none⟩) (t - fr) L (((List.replicate n v).drop fr).take (t - fr)) := by
      rw [hwl]
      refine ⟨by simp, fun x hx => by rw [List.mem_replicate] at hx; rw [hx.2]; exact hv, htL, hI'.by_.2.2.2.1, fun h0 => ⟨gb, off, rfl, hgb, fun j hj => ?_⟩⟩
      rw [hgc j (by omega), List.getD_eq_getElem?_getD, List.getD_eq_getElem?_getD, List.getElem?_replicate, List.getElem?_replicate, if_pos hj, if_pos (by omega)]
    have hwr := (S1.drew hSW).writeI (ai := num) (bi := q) (oi := r) (ni := ((t - fr : Nat) : Int)) num q r (t - fr) L gb off (((List.replicate n v).drop fr).take (t - fr)) ⟨hnum, by show q ≤ _; omega⟩ (by omega) (by omega) (hcb.drewN 1) (.inl (.inl (.inr ⟨by omega, by omega, by omega⟩))) (by omega) (by omega) HWn.out rfl rfl rfl rfl
    unfold WrP at hwr
    have HWr := Lib.hid hwr
    have HI' := Lib.hid hI'
    have z8 := hI'.sz_
    have hq1 : fr ≤ t := by omega
    have hq2 : (t : Int) - (fr : Int) ≤ (L : Int) := by omega
    change w9.heap.size + 2 ≤ bx at hle
    clear hwr hI' hI hS hSW hBx hBd ht hq hr hc hf hcb hgc hwl hLe
    refine wpIn_block ?_
    refine wpIn_seq ?_
    refine region_in_held (S := (fun W => W.cell? ⟨w.heap.size, 0, none⟩ = some (.pointer (some ⟨M, 0, none⟩)) ∧ W.cell? ⟨M, 0, none⟩ = some (.pointer (some ⟨A.p, 0, none⟩)) ∧ W.cell? ⟨M, 1, none⟩ = some (.int .i64 num) ∧ W.cell? ⟨bx, 0, none⟩ = some (.int .i64 q) ∧ W.cell? ⟨bx, 1, none⟩ = some (.int .i64 r) ∧ W.cell? ⟨bx, 2, none⟩ = some (.int .i64 fr) ∧ W.cell? ⟨bx, 3, none⟩ = some (.int .i64 t) ∧ W.cell? ⟨S, 0, none⟩ = some (.slice (some ⟨gb, off, none⟩) L L))) (ndf_of (by kernel_rfl)) (by rintro ⟨_, _, h⟩; exact absurd h.1 (by intro h; cases h)) (by kernel_rfl) ⟨x0, x1, x2, x3, x4, x5, x6, x7⟩ (fun hHeld => ?_)
    refine wpAnyH_take (i := 0) (oi := ?oi_1) (v := ?_) ?hi_1 (by kernel_rfl) ?hf_1 (by kernel_rfl) ?hQ_1 ?hy_1 (by assumption) ?_
    case hi_1 => simp only [List.getElem?_toArray, List.getElem?_cons_zero, List.getElem?_cons_succ]; rfl
    case hf_1 => kernel_rfl
    case hQ_1 => exact fun _ _ _ h => h
    case hy_1 =>
      refine Or.inl ⟨by rfl, ?_⟩
      intro W hSw
      obtain ⟨q0, q1, q2, q3, q4, q5, q6, q7⟩ := hSw
      go_simp
      try with_reducible rfl
    try simp only [Act.put, List.setIfInBounds_toArray, List.set_cons_zero, List.set_cons_succ]
    refine wpAnyH_take (i := 1) (oi := ?oi_2) (v := ?_) ?hi_2 (by kernel_rfl) ?hf_2 (by kernel_rfl) ?hQ_2 ?hy_2 (by assumption) ?_
    case hi_2 => simp only [List.getElem?_toArray, List.getElem?_cons_zero, List.getElem?_cons_succ]; rfl
    case hf_2 => kernel_rfl
    case hQ_2 => exact fun _ _ _ h => h
    case hy_2 =>
      refine Or.inl ⟨by rfl, ?_⟩
      intro W hSw
      obtain ⟨q0, q1, q2, q3, q4, q5, q6, q7⟩ := hSw
      go_simp
      try with_reducible rfl
    try simp only [Act.put, List.setIfInBounds_toArray, List.set_cons_zero, List.set_cons_succ]
    refine wpAnyH_take (i := 2) (oi := ?oi_3) (v := ?_) ?hi_3 (by kernel_rfl) ?hf_3 (by kernel_rfl) ?hQ_3 ?hy_3 (by assumption) ?_
    case hi_3 => simp only [List.getElem?_toArray, List.getElem?_cons_zero, List.getElem?_cons_succ]; rfl
    case hf_3 => kernel_rfl
    case hQ_3 => exact fun _ _ _ h => h
    case hy_3 =>
      refine Or.inl ⟨by rfl, ?_⟩
      intro W hSw
      obtain ⟨q0, q1, q2, q3, q4, q5, q6, q7⟩ := hSw
      go_simp
      try with_reducible rfl
    try simp only [Act.put, List.setIfInBounds_toArray, List.set_cons_zero, List.set_cons_succ]
    refine wpAnyH_take (i := 3) (oi := ?oi_4) (v := ?_) ?hi_4 (by kernel_rfl) ?hf_4 (by kernel_rfl) ?hQ_4 ?hy_4 (by assumption) ?_
    case hi_4 => simp only [List.getElem?_toArray, List.getElem?_cons_zero, List.getElem?_cons_succ]; rfl
    case hf_4 => kernel_rfl
    case hQ_4 => exact fun _ _ _ h => h
    case hy_4 =>
      refine Or.inl ⟨by rfl, ?_⟩
      intro W hSw
      obtain ⟨q0, q1, q2, q3, q4, q5, q6, q7⟩ := hSw
      go_simp
      try with_reducible rfl
    try simp only [Act.put, List.setIfInBounds_toArray, List.set_cons_zero, List.set_cons_succ]
    refine wpAnyH_take (i := 4) (oi := ?oi_5) (v := ?_) ?hi_5 (by kernel_rfl) ?hf_5 (by kernel_rfl) ?hQ_5 ?hy_5 (by assumption) ?_
    case hi_5 => simp only [List.getElem?_toArray, List.getElem?_cons_zero, List.getElem?_cons_succ]; rfl
    case hf_5 => kernel_rfl
    case hQ_5 => exact fun _ _ _ h => h
    case hy_5 =>
      refine Or.inl ⟨by rfl, ?_⟩
      intro W hSw
      obtain ⟨q0, q1, q2, q3, q4, q5, q6, q7⟩ := hSw
      go_simp
      try with_reducible rfl
    try simp only [Act.put, List.setIfInBounds_toArray, List.set_cons_zero, List.set_cons_succ]
    refine wpAnyH_take (i := 5) (oi := ?oi_6) (v := ?_) ?hi_6 (by kernel_rfl) ?hf_6 (by kernel_rfl) ?hQ_6 ?hy_6 (by assumption) ?_
    case hi_6 => simp only [List.getElem?_toArray, List.getElem?_cons_zero, List.getElem?_cons_succ]; rfl
    case hf_6 => kernel_rfl
    case hQ_6 => exact fun _ _ _ h => h
    case hy_6 =>
      refine Or.inl ⟨by rfl, ?_⟩
      intro W hSw
      obtain ⟨q0, q1, q2, q3, q4, q5, q6, q7⟩ := hSw
      go_simp
      try with_reducible rfl
    try simp only [Act.put, List.setIfInBounds_toArray, List.set_cons_zero, List.set_cons_succ]
    refine wpAnyH_take (i := 6) (oi := ?oi_7) (v := ?_) ?hi_7 (by kernel_rfl) ?hf_7 (by kernel_rfl) ?hQ_7 ?hy_7 (by assumption) ?_
    case hi_7 => simp only [List.getElem?_toArray, List.getElem?_cons_zero, List.getElem?_cons_succ]; rfl
    case hf_7 => kernel_rfl
    case hQ_7 => exact fun _ _ _ h => h
    case hy_7 =>
      refine Or.inl ⟨by rfl, ?_⟩
      intro W hSw
      obtain ⟨q0, q1, q2, q3, q4, q5, q6, q7⟩ := hSw
      go_simp
      try with_reducible rfl
    try simp only [Act.put, List.setIfInBounds_toArray, List.set_cons_zero, List.set_cons_succ]
    refine wpAnyH_take (i := 7) (oi := ?oi_8) (v := ?_) ?hi_8 (by kernel_rfl) ?hf_8 (by kernel_rfl) ?hQ_8 ?hy_8 (by assumption) ?_
    case hi_8 => simp only [List.getElem?_toArray, List.getElem?_cons_zero, List.getElem?_cons_succ]; rfl
    case hf_8 => kernel_rfl
    case hQ_8 => exact fun _ _ _ h => h
    case hy_8 =>
      refine Or.inl ⟨by rfl, ?_⟩
      intro W hSw
      obtain ⟨q0, q1, q2, q3, q4, q5, q6, q7⟩ := hSw
      go_simp
      try with_reducible rfl
    try simp only [Act.put, List.setIfInBounds_toArray, List.set_cons_zero, List.set_cons_succ]
    refine wpAnyH_take (i := 8) (oi := ?oi_9) (v := ?_) ?hi_9 (by kernel_rfl) ?hf_9 (by kernel_rfl) ?hQ_9 ?hy_9 (by assumption) ?_
    case hi_9 => simp only [List.getElem?_toArray, List.getElem?_cons_zero, List.getElem?_cons_succ]; rfl
    case hf_9 => kernel_rfl
    case hQ_9 => exact fun _ _ _ h => h
    case hy_9 =>
      refine Or.inl ⟨by rfl, ?_⟩
      intro W hSw
      obtain ⟨q0, q1, q2, q3, q4, q5, q6, q7⟩ := hSw
      go_simp
      try with_reducible rfl
    try simp only [Act.put, List.setIfInBounds_toArray, List.set_cons_zero, List.set_cons_succ]
    refine wpAnyH_take (i := 9) (oi := ?oi_10) (v := ?_) ?hi_10 (by kernel_rfl) ?hf_10 (by kernel_rfl) ?hQ_10 ?hy_10 (by assumption) ?_
    case hi_10 => simp only [List.getElem?_toArray, List.getElem?_cons_zero, List.getElem?_cons_succ]; rfl
    case hf_10 => kernel_rfl
    case hQ_10 => exact fun _ _ _ h => h
    case hy_10 =>
      refine Or.inl ⟨by rfl, ?_⟩
      intro W hSw
      obtain ⟨q0, q1, q2, q3, q4, q5, q6, q7⟩ := hSw
      go_simp
      try with_reducible rfl
    try simp only [Act.put, List.setIfInBounds_toArray, List.set_cons_zero, List.set_cons_succ]
    refine wpAnyH_take (i := 10) (oi := ?oi_11) (v := ?_) ?hi_11 (by kernel_rfl) ?hf_11 (by kernel_rfl) ?hQ_11 ?hy_11 (by assumption) ?_
    case hi_11 => simp only [List.getElem?_toArray, List.getElem?_cons_zero, List.getElem?_cons_succ]; rfl
    case hf_11 => kernel_rfl
    case hQ_11 => exact fun _ _ _ h => h
    case hy_11 =>
      refine Or.inl ⟨by rfl, ?_⟩
      intro W hSw
      obtain ⟨q0, q1, q2, q3, q4, q5, q6, q7⟩ := hSw
      go_simp
      try with_reducible rfl
    try simp only [Act.put, List.setIfInBounds_toArray, List.set_cons_zero, List.set_cons_succ]
    refine wpAnyH_take (i := 11) (oi := ?oi_12) (v := ?_) ?hi_12 (by kernel_rfl) ?hf_12 (by kernel_rfl) ?hQ_12 ?hy_12 (by assumption) ?_
    case hi_12 => simp only [List.getElem?_toArray, List.getElem?_cons_zero, List.getElem?_cons_succ]; rfl
    case hf_12 => kernel_rfl
    case hQ_12 => exact fun _ _ _ h => h
    case hy_12 =>
      refine Or.inl ⟨by rfl, ?_⟩
      intro W hSw
      obtain ⟨q0, q1, q2, q3, q4, q5, q6, q7⟩ := hSw
      go_simp
      try with_reducible rfl
    try simp only [Act.put, List.setIfInBounds_toArray, List.set_cons_zero, List.set_cons_succ]
    refine wpAnyH_take (i := 12) (oi := ?oi_13) (v := ?_) ?hi_13 (by kernel_rfl) ?hf_13 (by kernel_rfl) ?hQ_13 ?hy_13 (by assumption) ?_
    case hi_13 => simp only [List.getElem?_toArray, List.getElem?_cons_zero, List.getElem?_cons_succ]; rfl
    case hf_13 => kernel_rfl
    case hQ_13 => exact fun _ _ _ h => h
    case hy_13 =>
      refine Or.inl ⟨by rfl, ?_⟩
      intro W hSw
      obtain ⟨q0, q1, q2, q3, q4, q5, q6, q7⟩ := hSw
      go_simp
      try with_reducible rfl
    try simp only [Act.put, List.setIfInBounds_toArray, List.set_cons_zero, List.set_cons_succ]
    refine wpAnyH_take (i := 13) (oi := ?oi_14) (v := ?_) ?hi_14 (by kernel_rfl) ?hf_14 (by kernel_rfl) ?hQ_14 ?hy_14 (by assumption) ?_
    case hi_14 => simp only [List.getElem?_toArray, List.getElem?_cons_zero, List.getElem?_cons_succ]; rfl
    case hf_14 => kernel_rfl
    case hQ_14 => exact fun _ _ _ h => h
    case hy_14 =>
      refine Or.inl ⟨by rfl, ?_⟩
      intro W hSw
      obtain ⟨q0, q1, q2, q3, q4, q5, q6, q7⟩ := hSw
      go_simp
      try with_reducible rfl
    try simp only [Act.put, List.setIfInBounds_toArray, List.set_cons_zero, List.set_cons_succ]
    refine wpAnyH_take (i := 14) (oi := ?oi_15) (v := ?_) ?hi_15 (by kernel_rfl) ?hf_15 (by kernel_rfl) ?hQ_15 ?hy_15 (by assumption) ?_
    case hi_15 => simp only [List.getElem?_toArray, List.getElem?_cons_zero, List.getElem?_cons_succ]; rfl
    case hf_15 => kernel_rfl
    case hQ_15 => exact fun _ _ _ h => h
    case hy_15 =>
      refine Or.inl ⟨by rfl, ?_⟩
      intro W hSw
      obtain ⟨q0, q1, q2, q3, q4, q5, q6, q7⟩ := hSw
      go_simp
      try with_reducible rfl
    try simp only [Act.put, List.setIfInBounds_toArray, List.set_cons_zero, List.set_cons_succ]
    refine wpAnyH_take (i := 15) (oi := ?oi_16) (v := ?_) ?hi_16 (by kernel_rfl) ?hf_16 (by kernel_rfl) ?hQ_16 ?hy_16 (by assumption) ?_
    case hi_16 => simp only [List.getElem?_toArray, List.getElem?_cons_zero, List.getElem?_cons_succ]; rfl
    case hf_16 => kernel_rfl
    case hQ_16 => exact fun _ _ _ h => h
    case hy_16 =>
      refine Or.inl ⟨by rfl, ?_⟩
      intro W hSw
      obtain ⟨q0, q1, q2, q3, q4, q5, q6, q7⟩ := hSw
      go_simp
      try with_reducible rfl
    try simp only [Act.put, List.setIfInBounds_toArray, List.set_cons_zero, List.set_cons_succ]
    refine wpAnyH_take (i := 16) (oi := ?oi_17) (v := ?_) ?hi_17 (by kernel_rfl) ?hf_17 (by kernel_rfl) ?hQ_17 ?hy_17 (by assumption) ?_
    case hi_17 => simp only [List.getElem?_toArray, List.getElem?_cons_zero, List.getElem?_cons_succ]; rfl
    case hf_17 => kernel_rfl
    case hQ_17 => exact fun _ _ _ h => h
    case hy_17 =>
      refine Or.inl ⟨by rfl, ?_⟩
      intro W hSw
      obtain ⟨q0, q1, q2, q3, q4, q5, q6, q7⟩ := hSw
      go_simp
      try with_reducible rfl
    try simp only [Act.put, List.setIfInBounds_toArray, List.set_cons_zero, List.set_cons_succ]
    refine wpAnyH_take (i := 17) (oi := ?oi_18) (v := ?_) ?hi_18 (by kernel_rfl) ?hf_18 (by kernel_rfl) ?hQ_18 ?hy_18 (by assumption) ?_
    case hi_18 => simp only [List.getElem?_toArray, List.getElem?_cons_zero, List.getElem?_cons_succ]; rfl
    case hf_18 => kernel_rfl
    case hQ_18 => exact fun _ _ _ h => h
    case hy_18 =>
      refine Or.inl ⟨by rfl, ?_⟩
      intro W hSw
      obtain ⟨q0, q1, q2, q3, q4, q5, q6, q7⟩ := hSw
      go_simp
      try with_reducible rfl
    try simp only [Act.put, List.setIfInBounds_toArray, List.set_cons_zero, List.set_cons_succ]
    refine wpAnyH_take (i := 18) (oi := ?oi_19) (v := ?_) ?hi_19 (by kernel_rfl) ?hf_19 (by kernel_rfl) ?hQ_19 ?hy_19 (by assumption) ?_
    case hi_19 => simp only [List.getElem?_toArray, List.getElem?_cons_zero, List.getElem?_cons_succ]; rfl
    case hf_19 => kernel_rfl
    case hQ_19 => exact fun _ _ _ h => h
    case hy_19 =>
      refine Or.inl ⟨by rfl, ?_⟩
      intro W hSw
      obtain ⟨q0, q1, q2, q3, q4, q5, q6, q7⟩ := hSw
      have qc := hcut W
      go_simp
      try with_reducible rfl
    try simp only [Act.put, List.setIfInBounds_toArray, List.set_cons_zero, List.set_cons_succ]
    refine wpAnyH_ready (rs := [19]) (by kernel_rfl) (by simp) ?_
    refine AllReadyH.cons (o := ?oi_20) ?hi_20 (fun K hK => ?_) AllReadyH.nil
    case hi_20 => simp only [List.getElem?_toArray, List.getElem?_cons_zero, List.getElem?_cons_succ]; rfl
    go_simp
    (go_at_call 16
     with_reducible refine HWr.out.mono ?_
     rintro e w7 ⟨rfl, hS7, hK7⟩
     have hbxo := HBX.out
     have HS7 := Lib.hid hS7
     have HK7 : Hid (KX w0 (fun q => (X q ∨ (w.heap.size ≤ q ∧ q < S + 6 ∧ q < W0.heap.size)) ∨ q = bx) W w7) := Lib.hid (Fr.undrew hK7)
     have hK2 : w7.cell? ⟨w.heap.size, 0, none⟩ = some (.pointer (some ⟨M, 0, none⟩)) ∧ w7.cell? ⟨M, 0, none⟩ = some (.pointer (some ⟨A.p, 0, none⟩)) ∧ w7.cell? ⟨M, 1, none⟩ = some (.int .i64 num) ∧ w7.cell? ⟨bx, 0, none⟩ = some (.int .i64 q) ∧ w7.cell? ⟨bx, 1, none⟩ = some (.int .i64 r) ∧ w7.cell? ⟨bx, 2, none⟩ = some (.int .i64 fr) ∧ w7.cell? ⟨bx, 3, none⟩ = some (.int .i64 t) ∧ w7.cell? ⟨S, 0, none⟩ = some (.slice (some ⟨gb, off, none⟩) L L) :=
       ⟨(kcell hK7 (.inl (.inr ⟨by omega, by omega, by omega⟩)) (by show _ < W.heap.size; omega)).trans x0, (kcell hK7 (.inl (.inl hX)) (by show _ < W.heap.size; omega)).trans x1, (kcell hK7 (.inl (.inl hX)) (by show _ < W.heap.size; omega)).trans x2, (kcell hK7 (.inr rfl) (by show _ < W.heap.size; omega)).trans x3, (kcell hK7 (.inr rfl) (by show _ < W.heap.size; omega)).trans x4, (kcell hK7 (.inr rfl) (by show _ < W.heap.size; omega)).trans x5, (kcell hK7 (.inr rfl) (by show _ < W.heap.size; omega)).trans x6, (kcell hK7 (.inl (.inr ⟨by omega, by omega, by omega⟩)) (by show _ < W.heap.size; omega)).trans x7⟩
     clear hS7 hK7 hbxo)
    refine hK.out _ _ hK2 (fun hHeld => ?_)
    clear hK K
    try simp only [Act.put, List.setIfInBounds_toArray, List.set_cons_zero, List.set_cons_succ]
    refine wpAnyH_take (i := 20) (oi := ?oi_21) (v := ?_) ?hi_21 (by kernel_rfl) ?hf_21 (by kernel_rfl) ?hQ_21 ?hy_21 (by assumption) ?_
    case hi_21 => simp only [List.getElem?_toArray, List.getElem?_cons_zero, List.getElem?_cons_succ]; rfl
    case hf_21 => kernel_rfl
    case hQ_21 => exact fun _ _ _ h => h
    case hy_21 =>
      refine Or.inl ⟨by rfl, ?_⟩
      intro W hSw
      obtain ⟨q0, q1, q2, q3, q4, q5, q6, q7⟩ := hSw
      go_simp
      try with_reducible rfl
    try simp only [Act.put, List.setIfInBounds_toArray, List.set_cons_zero, List.set_cons_succ]
    refine wpAnyH_done (by kernel_rfl) ?_ _
    clear hHeld hK2 x0 x1 x2 x3 x4 x5 x6 x7
    refine wpIn_seq ?_
    refine region_in_list (ndf_of (by kernel_rfl)) (by rintro ⟨_, _, h⟩; exact absurd h.1 (by intro h; cases h)) ?_
    go_wp2
    refine wpIn_cond_false rfl ?_
    refine wpIn_skip ?_
    simp only [Exit.inBlock]
    have hbxo := HBX.out
    have hD3 : w9.heap.size = S + 4 := hW9s
    have hkx : ∀ q, (X q ∨ (w.heap.size ≤ q ∧ q < S + 6)) → q < W.heap.size → w7.heap[q]? = W.heap[q]? := fun q h1 h2 => (KX.fr HK7.out).block q h2 (fun h3 => h3.2 (by
      rcases h1 with h1 | h1
      · exact .inl (.inl h1)
      · exact .inl (.inr ⟨h1.1, h1.2, by omega⟩)))
    have hs7 : W.heap.size ≤ w7.heap.size := (KX.fr HK7.out).size
    have hI := HI'.out
    refine ⟨trivial, ?_, fun q hq => hkx q (.inr ⟨by omega, by omega⟩) (by omega), hs7⟩
    rw [← HT.out]
    refine ⟨⟨c + 1, HCn.out, (HS7.out.less (fun q hq => ?_)).more (by omega) (by omega)⟩, n2, (hkx _ (.inr ⟨by omega, by omega⟩) (by omega)).trans hI.b4, (hkx _ (.inr ⟨by omega, by omega⟩) (by omega)).trans hI.b8, (hkx _ (.inr ⟨by omega, by omega⟩) (by omega)).trans hI.b9, (hkx _ (.inr ⟨by omega, by omega⟩) (by omega)).trans hI.bs, (hkx _ (.inr ⟨by omega, by omega⟩) (by omega)).trans hI.bm, (hkx _ (.inr ⟨by omega, by omega⟩) (by omega)).trans hI.bn, (hkx M (.inl hX) (by omega)).trans hI.mm,
      byt_fr hI.by_ (KX.fr HK7.out) (fun g e h0 hh => ?_), Fr.trans hI.kx ((KX.fr HK7.out).more (fun q hq => ⟨hq.1, fun hx => hq.2 (.inl (.inl hx))⟩)), by omega⟩
    · rcases hq with e | ⟨e1, e2, _⟩
      · exact .inl (.inl e)
      · exact .inl (.inr ⟨e1, e2, by omega⟩)
    · have e' := HBw.out g e h0
      exact hh.2 (.inl (.inr ⟨by omega, by omega, by omega⟩))
  case done =>
    intro W hI hD hsz'
    have hs4 : w9.heap.size = S + 4 := hW9s
    have hF1 : Fr (fun q => q = w.heap.size + 1) W (W.setCell ⟨w.heap.size + 1, 0, none⟩ (.int .i64 0)) := (Fr.refl (fun q => q = w.heap.size + 1) W).set_ (p := ⟨w.heap.size + 1, 0, none⟩) rfl _
    have hB2 : Blk (W.setCell ⟨w.heap.size + 1, 0, none⟩ (.int .i64 0)) (w.heap.size + 1) 59 #[.int .i64 0] := hI.b8.set_ 0 _
    have hB3 := hI.b9.fr hF1 (by omega)
    have hF2 : Fr (fun q => q = w.heap.size + 2) (W.setCell ⟨w.heap.size + 1, 0, none⟩ (.int .i64 0)) ((W.setCell ⟨w.heap.size + 1, 0, none⟩ (.int .i64 0)).setCell ⟨w.heap.size + 1 + 1, 0, none⟩ (.int .i64 0)) := (Fr.refl (fun q => q = w.heap.size + 2) _).set_ (p := ⟨w.heap.size + 1 + 1, 0, none⟩) rfl _
    have hB3' : Blk ((W.setCell ⟨w.heap.size + 1, 0, none⟩ (.int .i64 0)).setCell ⟨w.heap.size + 1 + 1, 0, none⟩ (.int .i64 0)) (w.heap.size + 2) 25 #[.int .i64 0] := hB3.set_ 0 _
    have hB2' := hB2.fr hF2 (by omega)
    have d8 := hI.b8.cell 0
    have z8 : W.frozen? ⟨w.heap.size + 1, 0, none⟩ = false := hI.b8.frozen 0
    have d9 : (W.setCell ⟨w.heap.size + 1, 0, none⟩ (.int .i64 0)).cell? ⟨w.heap.size + 1 + 1, 0, none⟩ = some (.int .i64 0) := hB3.cell 0
    have z9 : (W.setCell ⟨w.heap.size + 1, 0, none⟩ (.int .i64 0)).frozen? ⟨w.heap.size + 1 + 1, 0, none⟩ = false := hB3.frozen 0
    have hF5 := (hF1.more (T := fun q => q = w.heap.size + 1 ∨ q = w.heap.size + 2) (fun q hq => .inl hq)).trans (hF2.more (fun q hq => .inr hq))
    have HX5 := Lib.hid (And.intro hB2' (And.intro hB3' hF5))
    clear hF1 hB2 hB3 hF2 hB3' hB2' hF5
    simp only [Exit.inBlock, Exit.then]
    go_wp2
    obtain ⟨hb8, hb9, hF5⟩ := HX5.out
    obtain ⟨W5, hW5⟩ : ∃ W5, W5 = (W.setCell ⟨w.heap.size + 1, 0, none⟩ (.int .i64 0)).setCell ⟨w.heap.size + 1 + 1, 0, none⟩ (.int .i64 0) := ⟨_, rfl⟩
    rw [← hW5] at hF5 hb8 hb9 ⊢
    rw [hs4] at hD hsz'
    have hK5 : W5.heap[S + 4]? = some (.deferred (some [])) := (hF5.block _ (by omega) (by omega)).trans hD
    rw [hs4]
    refine ⟨by simp, .inl ⟨_, _, rfl, run_takeDeferred hK5, ?_⟩⟩
    have hF6 : Fr (fun q => q = S + 4) W5 (W5.putObj (S + 4) (.deferred none)) := (Fr.refl _ W5).putObj _ rfl
    have hc8 := (hb8.fr hF6 (by omega)).cell 0
    have hc9 := (hb9.fr hF6 (by omega)).cell 0
    have hF := (hF5.more (T := fun q => q = w.heap.size + 1 ∨ q = w.heap.size + 2 ∨ q = S + 4) (fun q hq => by omega)).trans (hF6.more (fun q hq => by omega))
    obtain ⟨W6, hW6⟩ : ∃ W6, W6 = W5.putObj (S + 4) (.deferred none) := ⟨_, rfl⟩
    rw [← hW6] at hc8 hc9 hF ⊢
    have hres : Try.f31.results = #[.cell 8 59, .cell 9 25] := rfl
    refine ⟨.tuple #[.int .i64 0, .int .i64 0], ?_, ?_⟩
    · have hc8' : W6.cell? ⟨w.heap.size + 1, 0, none⟩ = some (.int .i64 0) := hc8
      have hc9' : W6.cell? ⟨w.heap.size + 1 + 1, 0, none⟩ = some (.int .i64 0) := hc9
      simp [results, hres, go_sem, hc8', hc9']
    · obtain ⟨c, hc, hS⟩ := hI.ex
      refine ⟨rfl, (hS.ext hF (fun q hq => ?_) (fun q hq => .inl (.inl hq))).more (by have := hc.2.2; omega) (by have := hc.2.2; omega), Fr.trans_new hI.kx hF (fun q hq => .inr (by omega))⟩
      exact .inl (.inr ⟨by omega, by omega, by omega⟩)
end Go.Proofs.Ytlnffcledpccjaa
