/-
  A state of the example: fill, begin.
-/
import Derived.Test.YtahbnhhdpcieiaaGreatDoorVh
namespace Go.Proofs.YtahbnhhdpcieiaaGreatDoor
open Go.RowKit
set_option linter.unusedVariables false
set_option linter.unusedSimpArgs false
theorem Are.cells_ne {w : World} {a bb rm gm g : Nat} {t : TypeId} {d : Ad} {cur : Array Value} (h : Are w a bb rm gm d) (hg : Blk w g t cur) (h1 : t ≠ 96) (h2 : t ≠ 5) : ¬ arb a bb rm gm g := by
  obtain ⟨n, _, hi⟩ := h.rooms
  obtain ⟨n', _, hi'⟩ := h.given
  rintro (rfl | rfl | rfl | rfl)
  · exact hg.ne_ h.blk h1 rfl
  · exact hg.ne_ h.byt h2 rfl
  · exact hi.ne_ hg rfl
  · exact hi'.ne_ hg rfl
theorem Are.mine_arb {a bb rm gm : Nat} {d : Ad} (hG : ∀ q, d.G q = []) {k : Nat} (hk : d.mine a bb rm gm k) : arb a bb rm gm k := by
  rcases hk with q | q | q | q | ⟨c, hc, _⟩
  · exact .inl q
  · exact .inr (.inl q)
  · exact .inr (.inr (.inl q))
  · exact .inr (.inr (.inr q))
  · exact absurd (hG c) hc
section
variable {w w' : World} {s g b a p bb rm gm : Nat} {num gl tb : Int} {d : Ad}
/-- a state, its arena beside it -/
structure SA (w : World) (s g b a p bb rm gm : Nat) (num gl tb : Int) (d : Ad) : Prop where
  st : StI w s g b a p num gl tb
  ar : Are w a bb rm gm d
  gn : ∀ q, d.G q = []
  sz : d.sz = 1000
  op : d.ops < 1000
theorem SA.ns (H : SA w s g b a p bb rm gm num gl tb d) : ¬ arb a bb rm gm s := H.ar.cells_ne H.st.blk (by decide) (by decide)
theorem SA.ng (H : SA w s g b a p bb rm gm num gl tb d) : ¬ arb a bb rm gm g := H.ar.cells_ne H.st.mod (by decide) (by decide)
theorem SA.nb (H : SA w s g b a p bb rm gm num gl tb d) : ¬ arb a bb rm gm b := H.ar.cells_ne H.st.gls (by decide) (by decide)
theorem SA.drewN (H : SA w s g b a p bb rm gm num gl tb d) (k : Nat) : SA (w.drewN k) s g b a p bb rm gm num gl tb d := ⟨H.st.drewN k, H.ar.drewN k, H.gn, H.sz, H.op⟩
theorem SA.alloc (H : SA w s g b a p bb rm gm num gl tb d) (o : Obj) : SA (w.alloc o) s g b a p bb rm gm num gl tb d := ⟨⟨H.st.blk.alloc o, H.st.mod.alloc o, H.st.gls.alloc o⟩, H.ar.alloc o, H.gn, H.sz, H.op⟩
/-- the arena turned -/
theorem SA.turn {d' : Ad} (H : SA w s g b a p bb rm gm num gl tb d) (hA : Are w' a bb rm gm d') (hF : Fr (arb a bb rm gm) w w') (hG : ∀ q, d'.G q = []) (hs : d'.sz = 1000) (ho : d'.ops < 1000) : SA w' s g b a p bb rm gm num gl tb d' :=
  ⟨H.st.fr hF H.ns H.ng H.nb, hA, hG, hs, ho⟩
theorem SA.setG (H : SA w s g b a p bb rm gm num gl tb d) (v : Int) : SA (w.setCell ⟨s, 5, none⟩ (.int .i64 v)) s g b a p bb rm gm num v tb d := by
  have hF : Fr (fun q => q = s) w (w.setCell ⟨s, 5, none⟩ (.int .i64 v)) := (Fr.refl (fun q => q = s) w).set_ (p := ⟨s, 5, none⟩) rfl _
  exact ⟨⟨H.st.blk.set_ 5 _, H.st.mod.fr hF (H.st.mod.ne_ H.st.blk (by decide)), H.st.gls.fr hF (H.st.gls.ne_ H.st.blk (by decide))⟩, H.ar.fr hF (fun k hk e => H.ns (e ▸ Are.mine_arb H.gn hk)), H.gn, H.sz, H.op⟩
theorem SA.setT (H : SA w s g b a p bb rm gm num gl tb d) (v : Int) : SA (w.setCell ⟨s, 6, none⟩ (.int .i64 v)) s g b a p bb rm gm num gl v d := by
  have hF : Fr (fun q => q = s) w (w.setCell ⟨s, 6, none⟩ (.int .i64 v)) := (Fr.refl (fun q => q = s) w).set_ (p := ⟨s, 6, none⟩) rfl _
  exact ⟨⟨H.st.blk.set_ 6 _, H.st.mod.fr hF (H.st.mod.ne_ H.st.blk (by decide)), H.st.gls.fr hF (H.st.gls.ne_ H.st.blk (by decide))⟩, H.ar.fr hF (fun k hk e => H.ns (e ▸ Are.mine_arb H.gn hk)), H.gn, H.sz, H.op⟩
def sS (a bb rm gm s : Nat) (q : Nat) : Prop := arb a bb rm gm q ∨ q = s
theorem twords (H : SA w s g b a p bb rm gm num gl tb d) (h : Nat) (hh : d.height = h) (hle : h ≤ 500) (ho : d.ops < 500) :
    Calls Tryz.prog 118 #[.pointer (some ⟨s, 0, none⟩), .int .i64 8, .func (.func 38) #[.pointer (some ⟨s, 0, none⟩)] #[]] w fun e w' => ∃ d', e = .returned (.int .i64 h) ∧ SA w' s g b a p bb rm gm num gl tb d' ∧ d'.height = h + 16 ∧ d'.ops = d.ops + 1 ∧ Fr (arb a bb rm gm) w w' := by
  refine (take_words H.st H.ar (H.gn _) (by have := H.sz; omega) (by omega)).mono ?_
  rintro e w' ⟨rfl, hA, hF⟩
  exact ⟨(d.cut 16).take d.height 16, by rw [hh], H.turn hA hF H.gn H.sz (by show d.ops + 1 < 1000; omega), by show d.height + 16 = _; omega, rfl, hF⟩
theorem tplaces (H : SA w s g b a p bb rm gm num gl tb d) (h : Nat) (hh : d.height = h) (hle : h ≤ 500) (ho : d.ops < 500) :
    Calls Tryz.prog 118 #[.pointer (some ⟨s, 0, none⟩), .int .i64 4, .func (.func 39) #[.pointer (some ⟨s, 0, none⟩)] #[]] w fun e w' => ∃ d', e = .returned (.int .i64 h) ∧ SA w' s g b a p bb rm gm num gl tb d' ∧ d'.height = h + 16 ∧ d'.ops = d.ops + 1 ∧ Fr (arb a bb rm gm) w w' := by
  refine (take_places H.st H.ar (H.gn _) (by have := H.sz; omega) (by omega)).mono ?_
  rintro e w' ⟨rfl, hA, hF⟩
  exact ⟨(d.cut 16).take d.height 16, by rw [hh], H.turn hA hF H.gn H.sz (by show d.ops + 1 < 1000; omega), by show d.height + 16 = _; omega, rfl, hF⟩
theorem gput (H : SA w s g b a p bb rm gm num gl tb d) (q v : Nat) (hq : q + 8 ≤ 1000) (hv : v < 18446744073709551616) :
    Calls Tryz.prog 54 #[.pointer (some ⟨a, 0, none⟩), .int .i64 q, .int .i64 8, .int .u64 v] w fun e w' => ∃ d', e = .returned (.int .i64 0) ∧ SA w' s g b a p bb rm gm num gl tb d' ∧ d'.mem = putM d.mem q (leN v 8) ∧ Fr (arb a bb rm gm) w w' := by
  refine (Put_ok a bb rm gm d q 8 v w H.ar (.inr rfl) (by have := H.sz; omega) hv).mono ?_
  rintro e w' ⟨rfl, hA, hF⟩
  have hF' := hF.more (T := arb a bb rm gm) (fun k hk => .inr (.inl hk))
  exact ⟨d.cpy q (leN v 8), rfl, H.turn hA hF' H.gn H.sz H.op, rfl, hF'⟩
set_option maxHeartbeats 4000000 in
set_option maxRecDepth 100000 in
theorem fill_ok (H : SA w s g b a p bb rm gm num 0 0 d) (h0 : d.height = 0) (ho : d.ops < 100) :
    Calls Tryz.prog 79 #[.pointer (some ⟨s, 0, none⟩), .slice none 0 0] w fun e w' => e = .returned (.tuple #[]) ∧ (∃ d', SA w' s g b a p bb rm gm num 0 16 d' ∧ wdN d'.mem 8 8 = 6) ∧ Fr (sS a bb rm gm s) w w' := by
  have HS := Lib.hid H
  have HT := Lib.hid (twords H 0 h0 (by omega) (by omega))
  have hw : Hid (w.heap.size ≤ w.heap.size) := Lib.hid (Nat.le_refl _)
  clear H h0
  go_enter Tryz.func79, Tryz.ntmps79
  go_wp2_with (first
    | (go_at_call 118; with_reducible refine HT.out.mono ?_
       rintro e w1 ⟨d1, rfl, hS1, hh1, ho1, hF1⟩
       have HS1 := Lib.hid hS1
       have q5 : w1.cell? ⟨s, 5, none⟩ = some (.int .i64 0) := hS1.st.blk.cell 5
       have z5 : w1.frozen? ⟨s, 5, none⟩ = false := hS1.st.blk.frozen 5
       have HF1 := Lib.hid hF1
       have HS2 := Lib.hid (hS1.setG 0)
       have HT2 := Lib.hid (tplaces (hS1.setG 0) 16 hh1 (by omega) (by omega))
       clear hS1 hh1 ho1 hF1)
    | (go_at_call 118; with_reducible refine HT2.out.mono ?_
       rintro e w3 ⟨d3, rfl, hS3, hh3, ho3, hF3⟩
       have HS3 := Lib.hid hS3
       have q6 : w3.cell? ⟨s, 6, none⟩ = some (.int .i64 0) := hS3.st.blk.cell 6
       have z6 : w3.frozen? ⟨s, 6, none⟩ = false := hS3.st.blk.frozen 6
       have HF3 := Lib.hid hF3
       have HS4 := Lib.hid (hS3.setT 16)
       have k0 : (w3.setCell ⟨s, 6, none⟩ (.int .i64 16)).cell? ⟨s, 0, none⟩ = some (.pointer (some ⟨g, 0, none⟩)) := (hS3.setT 16).st.blk.cell 0
       have k5 : (w3.setCell ⟨s, 6, none⟩ (.int .i64 16)).cell? ⟨g, 5, none⟩ = some (.slice (some ⟨b, 0, none⟩) 2 2) := (hS3.setT 16).st.mod.cell 5
       clear hS3 hh3 ho3 hF3))
  have HF4 : Hid (Fr (sS a bb rm gm s) w (w3.setCell ⟨s, 6, none⟩ (.int .i64 16))) := Lib.hid (by
    have f1 := (HF1.out.more (T := sS a bb rm gm s) (fun k hk => .inl hk)).set_ (p := ⟨s, 5, none⟩) (.inr rfl) (.int .i64 0)
    exact (f1.trans (HF3.out.more (fun k hk => .inl hk))).set_ (p := ⟨s, 6, none⟩) (.inr rfl) _)
  clear q5 z5 q6 z6 k0 k5 HT HT2 HS1 HS2 HS3 HF1 HF3
  generalize w3.setCell ⟨s, 6, none⟩ (.int .i64 16) = w4 at HS4 HF4 ⊢
  go_loopw [32] (fun v32 wr => ∃ k : Nat, k ≤ 2 ∧ v32 = .int .i64 k ∧ (∃ d', Hid (SA wr s g b a p bb rm gm num 0 16 d' ∧ (k = 2 → wdN d'.mem 8 8 = 6))) ∧ Hid (Fr (sS a bb rm gm s) w wr)) (fun v32 _ => 2 - (intOf v32).toNat)
  case atStart => exact ⟨0, by omega, rfl, ⟨d3, Lib.hid ⟨HS4.out, fun h => by cases h⟩⟩, HF4⟩
  case round =>
    obtain ⟨k, hk, rfl, ⟨d', HD⟩, HF⟩ := hrel
    have hk2 : k = 2 ∨ k = 0 ∨ k = 1 := by omega
    rcases hk2 with rfl | rfl | rfl
    · go_wp2
      go_loopw [54] (fun v54 wx => v54 = .int .i64 0 ∧ Hid (wr = wx)) (fun _ _ => 0)
      case atStart => exact ⟨rfl, Lib.hid rfl⟩
      case round =>
        obtain ⟨rfl, HX⟩ := hrel
        obtain rfl := HX.out
        go_wp2
        go_end0
        exact ⟨rfl, ⟨d', HD.out.1, HD.out.2 trivial⟩, HF.out⟩
    · have hb := HD.out.1.st.gls
      have c0 : wr.cell? ⟨b, 0, none⟩ = some (.int .u8 127) := hb.cell 0
      have c1 : wr.cell? ⟨b, 1, none⟩ = some (.bool false) := hb.cell 1
      have c2 : wr.cell? ⟨b, 2, none⟩ = some (.int .u64 5) := hb.cell 2
      clear hb
      go_wp2
      have hX : SA (wr.alloc (.cells #[.int .u8 127, .bool false, .int .u64 5] 60)) s g b a p bb rm gm num 0 16 d' := HD.out.1.alloc _
      have x2 : (wr.alloc (.cells #[.int .u8 127, .bool false, .int .u64 5] 60)).cell? ⟨wr.heap.size, 2, none⟩ = some (.int .u64 5) := (Blk.new wr 60 _).cell 2
      have hF : Fr (sS a bb rm gm s) w (wr.alloc (.cells #[.int .u8 127, .bool false, .int .u64 5] 60)) := HF.out.alloc _
      clear c0 c1 c2
      generalize wr.alloc (.cells #[.int .u8 127, .bool false, .int .u64 5] 60) = wx at hX x2 hF ⊢
      generalize wr.heap.size = bx at x2 ⊢
      have HF := Lib.hid hF
      have e1 : wx.cell? ⟨s, 1, none⟩ = some (.pointer (some ⟨a, 0, none⟩)) := hX.st.blk.cell 1
      have e5 : wx.cell? ⟨s, 5, none⟩ = some (.int .i64 0) := hX.st.blk.cell 5
      have hP := gput (hX.drewN 1) 0 5 (by omega) (by omega)
      have HP : Hid (Calls Tryz.prog 54 #[.pointer (some ⟨a, 0, none⟩), .int .i64 0, .int .i64 8, .int .u64 5] (wx.drewN 1) _) := Lib.hid hP
      have HL := Lib.hid (And.intro hX.ar.len hX.sz)
      clear hX hP hF
      go_region_with (go_at_call 54; refine HP.out.mono ?_; rintro e w' ⟨d5, rfl, hS5, hm5, hF5⟩; have HS5 := Lib.hid hS5; have HM5 := Lib.hid hm5; have HF5 := Lib.hid hF5; clear hS5 hm5 hF5)
      all_goals
        go_wp2
        go_round
        case rel => exact ⟨1, by omega, rfl, ⟨d5, Lib.hid ⟨HS5.out, fun h => by cases h⟩⟩, Lib.hid (HF.out.trans (HF5.out.undrewN.more (fun q hq => .inl hq)))⟩
        case measure => simp [intOf]
    · have hb := HD.out.1.st.gls
      have c0 : wr.cell? ⟨b, 3, none⟩ = some (.int .u8 126) := hb.cell 3
      have c1 : wr.cell? ⟨b, 4, none⟩ = some (.bool false) := hb.cell 4
      have c2 : wr.cell? ⟨b, 5, none⟩ = some (.int .u64 6) := hb.cell 5
      clear hb
      go_wp2
      have hX : SA (wr.alloc (.cells #[.int .u8 126, .bool false, .int .u64 6] 60)) s g b a p bb rm gm num 0 16 d' := HD.out.1.alloc _
      have x2 : (wr.alloc (.cells #[.int .u8 126, .bool false, .int .u64 6] 60)).cell? ⟨wr.heap.size, 2, none⟩ = some (.int .u64 6) := (Blk.new wr 60 _).cell 2
      have hF : Fr (sS a bb rm gm s) w (wr.alloc (.cells #[.int .u8 126, .bool false, .int .u64 6] 60)) := HF.out.alloc _
      clear c0 c1 c2
      generalize wr.alloc (.cells #[.int .u8 126, .bool false, .int .u64 6] 60) = wx at hX x2 hF ⊢
      generalize wr.heap.size = bx at x2 ⊢
      have HF := Lib.hid hF
      have e1 : wx.cell? ⟨s, 1, none⟩ = some (.pointer (some ⟨a, 0, none⟩)) := hX.st.blk.cell 1
      have e5 : wx.cell? ⟨s, 5, none⟩ = some (.int .i64 0) := hX.st.blk.cell 5
      have hP := gput (hX.drewN 1) 8 6 (by omega) (by omega)
      have HP : Hid (Calls Tryz.prog 54 #[.pointer (some ⟨a, 0, none⟩), .int .i64 8, .int .i64 8, .int .u64 6] (wx.drewN 1) _) := Lib.hid hP
      have HL := Lib.hid (And.intro hX.ar.len hX.sz)
      clear hX hP hF
      go_region_with (go_at_call 54; refine HP.out.mono ?_; rintro e w' ⟨d5, rfl, hS5, hm5, hF5⟩; have HS5 := Lib.hid hS5; have HM5 := Lib.hid hm5; have HF5 := Lib.hid hF5; clear hS5 hm5 hF5)
      all_goals
        go_wp2
        go_round
        case rel => exact ⟨2, by omega, rfl, ⟨d5, Lib.hid ⟨HS5.out, fun _ => by rw [HM5.out, wdN_put _ (by have := HL.out; omega)]⟩⟩, Lib.hid (HF.out.trans (HF5.out.undrewN.more (fun q hq => .inl hq)))⟩
        case measure => simp [intOf]
end
end Go.Proofs.YtahbnhhdpcieiaaGreatDoor
