/-
  instr: the words of an instruction's text (of numbers); two rows of strings put together.
-/
import Derived.Test.YtggfaalodojjkaaGreatDoorIi
import Derived.Test.YtggfaalodojjkaaGreatDoorZ5
import Derived.BigGuard
import Derived.Deep.RegionHeld3
import Derived.ProofKit
import Derived.Test.YtggfaalodojjkaaGreatDoorZ3
namespace Go.Proofs.YtggfaalodojjkaaGreatDoor
open Go.RowKit
set_option linter.unusedVariables false
set_option linter.unusedSimpArgs false
theorem addr_at (b j : Nat) : (⟨b, 0, none⟩ : Addr).add j = ⟨b, j, none⟩ := by cases j <;> simp [Addr.add]
/-- a row of strings, then another one -/
theorem app_str (w : World) (B B2 n m : Nat) (v x : Value) (xs ys : List (List UInt8)) (h1 : w.ownsRow B 9 1 v n (xs.map Sv)) (h2 : w.ownsRow B2 9 1 x m (ys.map Sv)) (hnm : n + m ≤ 200000) (hB : B ≤ w.heap.size) :
    ∃ v' w', Hid (∀ ty, (Builtin.append_ #[73, 73] ty #[v, x]).run Tryz.prog w = .ok v' w') ∧ w'.ownsRow B 9 1 v' (n + m) ((xs ++ ys).map Sv) ∧ w.grownBy w' v.ownBlock := by
  obtain ⟨i0, hi, hz0, hz1, hz2⟩ := info_parts info9
  rcases h2.2 with ⟨rfl, rfl⟩ | ⟨g, cap, cur, e, _, hg, hc, hm, _, _⟩
  · have hy : ys = [] := by have := h2.1; simp at this; exact this
    subst hy
    exact ⟨v, w, Lib.hid (fun ty => run_append_owned_none w B 73 ty 9 i0 1 Tryz.underlying73 hi v n _ h1), by simpa using h1, World.grownBy.refl _ _⟩
  · subst e
    have hr : ∀ ty, ∃ v' w', (Builtin.append_ #[73, 73] ty #[v, .slice (some ⟨g, 0, none⟩) m cap]).run Tryz.prog w = .ok v' w' ∧ w'.ownsRow B 9 1 v' (n + m) (xs.map Sv ++ ys.map Sv) ∧ w.grownBy w' v.ownBlock := fun ty => by
      obtain ⟨v', w', q1, q2, q3, _⟩ := run_append_own_at (P := Tryz.prog) w B 73 ty 9 i0 _ 1 16 Tryz.underlying73 hi hz0 hz1 hz2 rfl (by decide) v n _ h1 ⟨g, 0, none⟩ m cap (ys.map Sv) (by simpa using h2.1) (fun j u hu => by
        exact h2.cells (g := g) rfl j u hu) (fun u hu => by
        rw [List.mem_map] at hu
        obtain ⟨_, _, rfl⟩ := hu
        rfl) (by unfold maxLen; omega) (by omega) (by omega)
      exact ⟨v', w', q1, q2, q3⟩
    obtain ⟨v', w', q1, q2, q3⟩ := hr 0
    refine ⟨v', w', Lib.hid (fun ty => ?_), by rw [List.map_append]; exact q2, q3⟩
    rw [← q1]; rfl
/-- what words answers -/
def WdP (L : List (List UInt8)) (w : World) (e : Ending) (w' : World) : Prop :=
  ∃ v, e = .returned v ∧ w'.ownsRow w.heap.size 9 1 v L.length (L.map Sv) ∧ Below w.heap.size w w'
theorem WdP.of {L : List Int} {w W : World} (hb : Below w.heap.size w W) {e : Ending} {w' : World} (h : TnP L W e w') : WdP (L.map tn) w e w' := by
  obtain ⟨v, rfl, h1, h2⟩ := h
  refine ⟨v, rfl, ?_, hb.trans (h2.mono hb.size)⟩
  rw [List.map_map, List.length_map]
  exact own_base h1 hb.size
set_option maxHeartbeats 4000000 in
set_option maxRecDepth 100000 in
theorem words_0 (cd a b al : Int) (A : Option Addr) (n c : Nat) (fi : Int) (nm : ByteArray) (At Ag : Option Addr) (nt ct ng cg : Nat) (w : World) :
    Calls Tryz.prog 39 #[.agg #[.int .i64 cd, .int .u64 a, .int .u64 b, .int .i64 al, .slice A n c], .agg #[.int .i64 fi, .string nm, .int .i64 0, .slice At nt ct, .slice Ag ng cg]] w (WdP [] w) := by
  have HB := Lib.hid (((Below.refl w.heap.size w).alloc (Nat.le_refl _) (.cells #[.int .i64 cd, .int .u64 a, .int .u64 b, .int .i64 al, .slice A n c] 30)).alloc (by simp) (.cells #[.int .i64 fi, .string nm, .int .i64 0, .slice At nt ct, .slice Ag ng cg] 61))
  go_enter Tryz.func39, Tryz.ntmps39
  go_wp2
  go_ret
  exact ⟨_, rfl, World.ownsRow_nil _ _ _ _, HB.out⟩
set_option maxHeartbeats 4000000 in
set_option maxRecDepth 100000 in
theorem words_5 (cd a b al : Int) (A : Option Addr) (n c : Nat) (fi  : Int) (nm : ByteArray) (At Ag : Option Addr) (nt ct ng cg : Nat) (w : World) (hL : Lw w) (ha : 0 ≤ a ∧ a < 18446744073709551616) (hb0 : 0 ≤ b ∧ b < 18446744073709551616) :
    Calls Tryz.prog 39 #[.agg #[.int .i64 cd, .int .u64 a, .int .u64 b, .int .i64 al, .slice A n c], .agg #[.int .i64 fi, .string nm, .int .i64 5, .slice At nt ct, .slice Ag ng cg]] w (WdP ([a, b].map tn) w) := by
  obtain ⟨W0, hW0⟩ : ∃ V, V = (w.alloc (.cells #[.int .i64 cd, .int .u64 a, .int .u64 b, .int .i64 al, .slice A n c] 30)).alloc (.cells #[.int .i64 fi, .string nm, .int .i64 5, .slice At nt ct, .slice Ag ng cg] 61) := ⟨_, rfl⟩
  have hb : Below w.heap.size w W0 := by rw [hW0]; exact ((Below.refl w.heap.size w).alloc (Nat.le_refl _) _).alloc (by simp) _
  have hb2 : Below w.heap.size w (W0.alloc (.cells ([a, b].map U64).toArray 22)) := hb.alloc hb.size _
  have HT := Lib.hid (tens_ok _ _ _ [a, b] _ (Sl_new W0 [a, b] (by simp)) (by simp) (by intro z hz; simp at hz; rcases hz with rfl | rfl; exact ha; exact hb0) (hL.below hb2))
  have HQ := Lib.hid (fun (e : Ending) (w' : World) (h : TnP [a, b] (W0.alloc (.cells ([a, b].map U64).toArray 22)) e w') => WdP.of hb2 h)
  have HW0 := Lib.hid hW0
  have hsz : W0.heap.size = w.heap.size + 2 := by rw [hW0]; simp
  simp only [List.map_cons, List.map_nil, List.length_cons, List.length_nil, U64, Nat.reduceAdd, hsz] at HT HQ
  clear hb hb2 hW0 hL
  go_enter Tryz.func39, Tryz.ntmps39
  go_upto_region 1 with fail
  rw [← HW0.out]
  have c3 : W0.cell? ⟨w.heap.size, 1, none⟩ = some (.int .u64 a) := by rw [HW0.out]; exact ((Blk.new w 30 _).alloc _).cell 1
  have c4 : W0.cell? ⟨w.heap.size, 2, none⟩ = some (.int .u64 b) := by rw [HW0.out]; exact ((Blk.new w 30 _).alloc _).cell 2
  have c5 : W0.cell? ⟨w.heap.size, 3, none⟩ = some (.int .i64 al) := by rw [HW0.out]; exact ((Blk.new w 30 _).alloc _).cell 3
  have c6 : W0.cell? ⟨w.heap.size + 1, 2, none⟩ = some (.int .i64 5) := by rw [HW0.out]; exact Blk.cell (heap2 w _ _) 2
  go_wp2_with fail
  with_reducible refine HT.out.mono ?_
  intro e w1 h1
  have h2 := HQ.out e w1 h1
  obtain ⟨v, rfl, h3, h4⟩ := h2
  have H3 := Lib.hid h3
  have H4 := Lib.hid h4
  clear h1 h3 h4
  go_wp2
  go_ret
  exact ⟨v, rfl, H3.out, H4.out⟩
set_option maxHeartbeats 4000000 in
set_option maxRecDepth 100000 in
theorem words_10 (cd a b al : Int) (A : Option Addr) (n c : Nat) (fi  : Int) (nm : ByteArray) (At Ag : Option Addr) (nt ct ng cg : Nat) (w : World) (hL : Lw w) (ha : 0 ≤ a ∧ a < 18446744073709551616) (hb0 : 0 ≤ b ∧ b < 18446744073709551616) :
    Calls Tryz.prog 39 #[.agg #[.int .i64 cd, .int .u64 a, .int .u64 b, .int .i64 al, .slice A n c], .agg #[.int .i64 fi, .string nm, .int .i64 10, .slice At nt ct, .slice Ag ng cg]] w (WdP ([a, b].map tn) w) := by
  obtain ⟨W0, hW0⟩ : ∃ V, V = (w.alloc (.cells #[.int .i64 cd, .int .u64 a, .int .u64 b, .int .i64 al, .slice A n c] 30)).alloc (.cells #[.int .i64 fi, .string nm, .int .i64 10, .slice At nt ct, .slice Ag ng cg] 61) := ⟨_, rfl⟩
  have hb : Below w.heap.size w W0 := by rw [hW0]; exact ((Below.refl w.heap.size w).alloc (Nat.le_refl _) _).alloc (by simp) _
  have hb2 : Below w.heap.size w (W0.alloc (.cells ([a, b].map U64).toArray 22)) := hb.alloc hb.size _
  have HT := Lib.hid (tens_ok _ _ _ [a, b] _ (Sl_new W0 [a, b] (by simp)) (by simp) (by intro z hz; simp at hz; rcases hz with rfl | rfl; exact ha; exact hb0) (hL.below hb2))
  have HQ := Lib.hid (fun (e : Ending) (w' : World) (h : TnP [a, b] (W0.alloc (.cells ([a, b].map U64).toArray 22)) e w') => WdP.of hb2 h)
  have HW0 := Lib.hid hW0
  have hsz : W0.heap.size = w.heap.size + 2 := by rw [hW0]; simp
  simp only [List.map_cons, List.map_nil, List.length_cons, List.length_nil, U64, Nat.reduceAdd, hsz] at HT HQ
  clear hb hb2 hW0 hL
  go_enter Tryz.func39, Tryz.ntmps39
  go_upto_region 1 with fail
  rw [← HW0.out]
  have c3 : W0.cell? ⟨w.heap.size, 1, none⟩ = some (.int .u64 a) := by rw [HW0.out]; exact ((Blk.new w 30 _).alloc _).cell 1
  have c4 : W0.cell? ⟨w.heap.size, 2, none⟩ = some (.int .u64 b) := by rw [HW0.out]; exact ((Blk.new w 30 _).alloc _).cell 2
  have c5 : W0.cell? ⟨w.heap.size, 3, none⟩ = some (.int .i64 al) := by rw [HW0.out]; exact ((Blk.new w 30 _).alloc _).cell 3
  have c6 : W0.cell? ⟨w.heap.size + 1, 2, none⟩ = some (.int .i64 10) := by rw [HW0.out]; exact Blk.cell (heap2 w _ _) 2
  go_wp2_with fail
  with_reducible refine HT.out.mono ?_
  intro e w1 h1
  have h2 := HQ.out e w1 h1
  obtain ⟨v, rfl, h3, h4⟩ := h2
  have H3 := Lib.hid h3
  have H4 := Lib.hid h4
  clear h1 h3 h4
  go_wp2
  go_ret
  exact ⟨v, rfl, H3.out, H4.out⟩
set_option maxHeartbeats 4000000 in
set_option maxRecDepth 100000 in
theorem words_8 (cd a b al : Int) (A : Option Addr) (n c : Nat) (fi  : Int) (nm : ByteArray) (At Ag : Option Addr) (nt ct ng cg : Nat) (w : World) (hL : Lw w) (ha : 0 ≤ a ∧ a < 18446744073709551616) (hb0 : 0 ≤ b ∧ b < 18446744073709551616) (hal : 0 ≤ al ∧ al ≤ 31) :
    Calls Tryz.prog 39 #[.agg #[.int .i64 cd, .int .u64 a, .int .u64 b, .int .i64 al, .slice A n c], .agg #[.int .i64 fi, .string nm, .int .i64 8, .slice At nt ct, .slice Ag ng cg]] w (WdP ([a, b, al].map tn) w) := by
  obtain ⟨W0, hW0⟩ : ∃ V, V = (w.alloc (.cells #[.int .i64 cd, .int .u64 a, .int .u64 b, .int .i64 al, .slice A n c] 30)).alloc (.cells #[.int .i64 fi, .string nm, .int .i64 8, .slice At nt ct, .slice Ag ng cg] 61) := ⟨_, rfl⟩
  have hb : Below w.heap.size w W0 := by rw [hW0]; exact ((Below.refl w.heap.size w).alloc (Nat.le_refl _) _).alloc (by simp) _
  have hb2 : Below w.heap.size w (W0.alloc (.cells ([a, b, al].map U64).toArray 22)) := hb.alloc hb.size _
  have HT := Lib.hid (tens_ok _ _ _ [a, b, al] _ (Sl_new W0 [a, b, al] (by simp)) (by simp) (by intro z hz; simp at hz; rcases hz with rfl | rfl | rfl; exact ha; exact hb0; omega) (hL.below hb2))
  have HQ := Lib.hid (fun (e : Ending) (w' : World) (h : TnP [a, b, al] (W0.alloc (.cells ([a, b, al].map U64).toArray 22)) e w') => WdP.of hb2 h)
  have HW0 := Lib.hid hW0
  have hsz : W0.heap.size = w.heap.size + 2 := by rw [hW0]; simp
  simp only [List.map_cons, List.map_nil, List.length_cons, List.length_nil, U64, Nat.reduceAdd, hsz] at HT HQ
  have hw : IntKind.u64.wrap al = al := by rw [IntKind.wrap_u64]; omega
  clear hb hb2 hW0 hL
  go_enter Tryz.func39, Tryz.ntmps39
  go_upto_region 1 with fail
  rw [← HW0.out]
  have c3 : W0.cell? ⟨w.heap.size, 1, none⟩ = some (.int .u64 a) := by rw [HW0.out]; exact ((Blk.new w 30 _).alloc _).cell 1
  have c4 : W0.cell? ⟨w.heap.size, 2, none⟩ = some (.int .u64 b) := by rw [HW0.out]; exact ((Blk.new w 30 _).alloc _).cell 2
  have c5 : W0.cell? ⟨w.heap.size, 3, none⟩ = some (.int .i64 al) := by rw [HW0.out]; exact ((Blk.new w 30 _).alloc _).cell 3
  have c6 : W0.cell? ⟨w.heap.size + 1, 2, none⟩ = some (.int .i64 8) := by rw [HW0.out]; exact Blk.cell (heap2 w _ _) 2
  go_wp2_with fail
  with_reducible refine HT.out.mono ?_
  intro e w1 h1
  have h2 := HQ.out e w1 h1
  obtain ⟨v, rfl, h3, h4⟩ := h2
  have H3 := Lib.hid h3
  have H4 := Lib.hid h4
  clear h1 h3 h4
  go_wp2
  go_ret
  exact ⟨v, rfl, H3.out, H4.out⟩
set_option maxHeartbeats 4000000 in
set_option maxRecDepth 100000 in
theorem words_x (cd a b al : Int) (A : Option Addr) (n c : Nat) (fi fo : Int) (nm : ByteArray) (At Ag : Option Addr) (nt ct ng cg : Nat) (w : World) (hL : Lw w) (ha : 0 ≤ a ∧ a < 18446744073709551616) (h0 : fo ≠ 0) (h1 : fo ≠ 1) (h3 : fo ≠ 3) (h5 : fo ≠ 5) (h10 : fo ≠ 10) (h8 : fo ≠ 8) (h11 : fo ≠ 11) :
    Calls Tryz.prog 39 #[.agg #[.int .i64 cd, .int .u64 a, .int .u64 b, .int .i64 al, .slice A n c], .agg #[.int .i64 fi, .string nm, .int .i64 fo, .slice At nt ct, .slice Ag ng cg]] w (WdP ([a].map tn) w) := by
  obtain ⟨W0, hW0⟩ : ∃ V, V = (w.alloc (.cells #[.int .i64 cd, .int .u64 a, .int .u64 b, .int .i64 al, .slice A n c] 30)).alloc (.cells #[.int .i64 fi, .string nm, .int .i64 fo, .slice At nt ct, .slice Ag ng cg] 61) := ⟨_, rfl⟩
  have hb : Below w.heap.size w W0 := by rw [hW0]; exact ((Below.refl w.heap.size w).alloc (Nat.le_refl _) _).alloc (by simp) _
  have hb2 : Below w.heap.size w (W0.alloc (.cells ([a].map U64).toArray 22)) := hb.alloc hb.size _
  have HT := Lib.hid (tens_ok _ _ _ [a] _ (Sl_new W0 [a] (by simp)) (by simp) (by intro z hz; simp at hz; subst hz; exact ha) (hL.below hb2))
  have HQ := Lib.hid (fun (e : Ending) (w' : World) (h : TnP [a] (W0.alloc (.cells ([a].map U64).toArray 22)) e w') => WdP.of hb2 h)
  have HW0 := Lib.hid hW0
  have hsz : W0.heap.size = w.heap.size + 2 := by rw [hW0]; simp
  simp only [List.map_cons, List.map_nil, List.length_cons, List.length_nil, U64, Nat.reduceAdd, hsz] at HT HQ
  have e0 : (fo == 0) = false := by simpa using h0
  have e1 : (fo == 1) = false := by simpa using h1
  have e3 : (fo == 3) = false := by simpa using h3
  have e5 : (fo == 5) = false := by simpa using h5
  have e10 : (fo == 10) = false := by simpa using h10
  have e8 : (fo == 8) = false := by simpa using h8
  have e11 : (fo == 11) = false := by simpa using h11
  clear h0 h1 h3 h5 h10 h8 h11
  clear hb hb2 hW0 hL
  go_enter Tryz.func39, Tryz.ntmps39
  go_upto_region 1 with fail
  rw [← HW0.out]
  have c3 : W0.cell? ⟨w.heap.size, 1, none⟩ = some (.int .u64 a) := by rw [HW0.out]; exact ((Blk.new w 30 _).alloc _).cell 1
  have c4 : W0.cell? ⟨w.heap.size, 2, none⟩ = some (.int .u64 b) := by rw [HW0.out]; exact ((Blk.new w 30 _).alloc _).cell 2
  have c5 : W0.cell? ⟨w.heap.size, 3, none⟩ = some (.int .i64 al) := by rw [HW0.out]; exact ((Blk.new w 30 _).alloc _).cell 3
  have c6 : W0.cell? ⟨w.heap.size + 1, 2, none⟩ = some (.int .i64 fo) := by rw [HW0.out]; exact Blk.cell (heap2 w _ _) 2
  go_wp2_with fail
  with_reducible refine HT.out.mono ?_
  intro e w1 h1
  have h2 := HQ.out e w1 h1
  obtain ⟨v, rfl, h3, h4⟩ := h2
  have H3 := Lib.hid h3
  have H4 := Lib.hid h4
  clear h1 h3 h4
  go_wp2
  go_ret
  exact ⟨v, rfl, H3.out, H4.out⟩
end Go.Proofs.YtggfaalodojjkaaGreatDoor
/-
  instr: an instruction's text, given its op and its words.
-/
namespace Go.Proofs.YtggfaalodojjkaaGreatDoor
open Go.RowKit
set_option linter.unusedVariables false
set_option linter.unusedSimpArgs false
theorem own_below0 {E size B : Nat} {w wr w3 : World} {v : Value} {n : Nat} {xs : List Value} (hb : Below B w wr) (h : wr.ownsRow B E size v n xs) (hg : wr.grownBy w3 v.ownBlock) (hB : B ≤ wr.heap.size) : Below B w w3 :=
  hb.grown hg hB (fun j hj => by have := (h.lt j hj).1; omega)
theorem own_one (V : World) (B : Nat) (nl : List UInt8) (hB : B ≤ V.heap.size) : (V.alloc (.cells #[.string (bs nl)] 9)).ownsRow B 9 1 (.slice (some ⟨V.heap.size, 0, none⟩) 1 1) 1 ([nl].map Sv) :=
  ⟨by simp, .inr ⟨V.heap.size, 1, _, rfl, hB, heap_alloc_new V _, Nat.le_refl _, by unfold maxLen; omega, by simp, by simp [Sv]⟩⟩
theorem join_ok (g n cp : Nat) (xs : List (List UInt8)) (w : World) (B : Nat) (h : w.ownsRow B 9 1 (.slice (some ⟨g, 0, none⟩) n cp) n (xs.map Sv)) (hn : xs.length = n) (hc : n ≤ cp) (hl : xs.length ≤ 1000000) (hj : (Lib.join xs [32]).length ≤ 1000000) :
    Calls Tryz.prog 40 #[.slice (some ⟨g, 0, none⟩) n cp, .string ⟨#[32]⟩] w fun e w' => e = .returned (.string (bs (Lib.join xs [32]))) ∧ Below w.heap.size w w' := by
  have hm : (xs.map bs).map (·.data.toList) = xs := by
    rw [List.map_map]
    have : ((fun x : ByteArray => x.data.toList) ∘ bs) = id := by funext l; simp [bs]
    rw [this, List.map_id]
  have hg : g < w.heap.size := by
    obtain ⟨cs, hb⟩ := own_ty h rfl
    exact hb.lt
  have := Tryz.strings_Join g 0 cp (xs.map bs) ⟨#[32]⟩ w (fun j x hx => by
    rw [List.getElem?_map] at hx
    cases hq : xs[j]? with
    | none => rw [hq] at hx; cases hx
    | some l =>
      rw [hq] at hx
      cases hx
      have hjl := (List.getElem?_eq_some_iff.1 hq).1
      rw [Nat.zero_add, h.cellAt j (by omega), List.getElem?_map, hq]
      rfl) hg (by rw [List.length_map]; omega) (by rw [List.length_map]; omega) (by rw [hm]; simp; omega)
  rw [hm, List.length_map, hn] at this
  exact this
theorem results14 : Tryz.f14.results = #[.tmp 2] := by kernel_rfl
set_option maxHeartbeats 4000000 in
set_option maxRecDepth 100000 in
theorem print_walk (cd a b al : Int) (A : Option Addr) (n c : Nat) (hnc : n ≤ c) (hcm : c ≤ 9223372036854775807) (w : World) (fi fo : Int) (nl : List UInt8) (nt ng : Nat) (ws : List (List UInt8)) (hwl : ws.length ≤ 100000) (hjl : (Lib.join (nl :: ws) [32]).length ≤ 1000000)
    (HO : Hid (∀ W, Below w.heap.size w W → Calls Tryz.prog 29 #[.agg #[.int .i64 cd, .int .u64 a, .int .u64 b, .int .i64 al, .slice A n c]] W fun e w' => ∃ At ct Ag cg, nt ≤ ct ∧ ct ≤ 9223372036854775807 ∧ ng ≤ cg ∧ cg ≤ 9223372036854775807 ∧ e = .returned (.tuple #[.agg #[.int .i64 fi, .string (bs nl), .int .i64 fo, .slice At nt ct, .slice Ag ng cg], .bool true]) ∧ Below W.heap.size W w'))
    (HWd : Hid (∀ At ct Ag cg W, Below w.heap.size w W → Calls Tryz.prog 39 #[.agg #[.int .i64 cd, .int .u64 a, .int .u64 b, .int .i64 al, .slice A n c], .agg #[.int .i64 fi, .string (bs nl), .int .i64 fo, .slice At nt ct, .slice Ag ng cg]] W (WdP ws W))) :
    Calls Tryz.prog 14 #[.agg #[.int .i64 cd, .int .u64 a, .int .u64 b, .int .i64 al, .slice A n c]] w fun e w' => e = .returned (.string (bs (Lib.join (nl :: ws) [32]))) ∧ Below w.heap.size w w' := by
  obtain ⟨W0, hW0⟩ : ∃ V, V = w.alloc (.cells #[.int .i64 cd, .int .u64 a, .int .u64 b, .int .i64 al, .slice A n c] 30) := ⟨_, rfl⟩
  obtain ⟨bx, hbx⟩ : ∃ x, x = w.heap.size := ⟨_, rfl⟩
  have hb0 : Below w.heap.size w W0 := by rw [hW0]; exact (Below.refl _ _).alloc (Nat.le_refl _) _
  have hX0 : Blk W0 bx 30 #[.int .i64 cd, .int .u64 a, .int .u64 b, .int .i64 al, .slice A n c] := by rw [hW0, hbx]; exact Blk.new w 30 _
  have HB0 := Lib.hid hb0
  have HX := Lib.hid (fun V (hV : Below W0.heap.size W0 V) => hX0.below hV hX0.lt)
  have HO0 := Lib.hid (HO.out W0 hb0)
  have HW0 := Lib.hid hW0
  have HBX := Lib.hid hbx
  have HWL := Lib.hid hwl
  have HJL := Lib.hid hjl
  have x0 : W0.cell? ⟨bx, 0, none⟩ = some (.int .i64 cd) := hX0.cell 0
  have x1 : W0.cell? ⟨bx, 1, none⟩ = some (.int .u64 a) := hX0.cell 1
  have x2 : W0.cell? ⟨bx, 2, none⟩ = some (.int .u64 b) := hX0.cell 2
  have x3 : W0.cell? ⟨bx, 3, none⟩ = some (.int .i64 al) := hX0.cell 3
  have x4 : W0.cell? ⟨bx, 4, none⟩ = some (.slice A n c) := hX0.cell 4
  clear hb0 hX0 hW0 hbx HO hwl hjl
  go_enter Tryz.func14, Tryz.ntmps14
  go_upto_region 1 with fail
  rw [← HBX.out]
  rw [← HW0.out]
  go_upto_region 2 with (first
    | (go_at_call 29; (with_reducible refine HO0.out.mono ?_); rintro e w1 ⟨At, ct, Ag, cg, hnt, hct, hng, hcg, rfl, hb1⟩
       have HW1 := Lib.hid hb1
       clear hb1))
  obtain ⟨W5, hW5⟩ : ∃ V, V = w1.alloc (.cells #[.int .i64 fi, .string (bs nl), .int .i64 fo, .slice At nt ct, .slice Ag ng cg] 61) := ⟨_, rfl⟩
  obtain ⟨b4, hb4⟩ : ∃ x, x = w1.heap.size := ⟨_, rfl⟩
  have h15 : Below w1.heap.size w1 W5 := by rw [hW5]; exact (Below.refl _ _).alloc (Nat.le_refl _) _
  have hI : Blk W5 b4 61 #[.int .i64 fi, .string (bs nl), .int .i64 fo, .slice At nt ct, .slice Ag ng cg] := by rw [hW5, hb4]; exact Blk.new w1 61 _
  rw [← hb4, ← hW5]
  have HB5 : Hid (Below w.heap.size w W5) := Lib.hid (HB0.out.trans ((HW1.out.trans (h15.mono HW1.out.size)).mono HB0.out.size))
  have HX5 : Hid (Below W0.heap.size W0 W5) := Lib.hid (HW1.out.trans (h15.mono HW1.out.size))
  have HVD : Hid (Below W5.heap.size W5 W5.drew) := Lib.hid (below_drew (Below.refl _ _))
  have HKS : Hid (∀ V, Below W5.heap.size W5 V → V.cell? ⟨bx, 0, none⟩ = some (.int .i64 cd) ∧ V.cell? ⟨bx, 1, none⟩ = some (.int .u64 a) ∧ V.cell? ⟨bx, 2, none⟩ = some (.int .u64 b) ∧ V.cell? ⟨bx, 3, none⟩ = some (.int .i64 al) ∧ V.cell? ⟨bx, 4, none⟩ = some (.slice A n c) ∧ V.cell? ⟨b4, 0, none⟩ = some (.int .i64 fi) ∧ V.cell? ⟨b4, 1, none⟩ = some (.string (bs nl)) ∧ V.cell? ⟨b4, 2, none⟩ = some (.int .i64 fo) ∧ V.cell? ⟨b4, 3, none⟩ = some (.slice At nt ct) ∧ V.cell? ⟨b4, 4, none⟩ = some (.slice Ag ng cg)) := Lib.hid (fun V hV => by
    have hx := HX.out V (HX5.out.trans (hV.mono HX5.out.size))
    have hi := hI.below hV hI.lt
    exact ⟨hx.cell 0, hx.cell 1, hx.cell 2, hx.cell 3, hx.cell 4, hi.cell 0, hi.cell 1, hi.cell 2, hi.cell 3, hi.cell 4⟩)
  have HWD := HWd
  have hks0 := HKS.out W5.drew HVD.out
  clear h15 hI hW5 hb4 HWd x0 x1 x2 x3 x4
  go_upto_region 4 with fail
  refine wp_region_noPanic ?_
  refine wp_region_held_drew (S := (fun W => W.cell? ⟨bx, 0, none⟩ = some (.int .i64 cd) ∧ W.cell? ⟨bx, 1, none⟩ = some (.int .u64 a) ∧ W.cell? ⟨bx, 2, none⟩ = some (.int .u64 b) ∧ W.cell? ⟨bx, 3, none⟩ = some (.int .i64 al) ∧ W.cell? ⟨bx, 4, none⟩ = some (.slice A n c) ∧ W.cell? ⟨b4, 0, none⟩ = some (.int .i64 fi) ∧ W.cell? ⟨b4, 1, none⟩ = some (.string (bs nl)) ∧ W.cell? ⟨b4, 2, none⟩ = some (.int .i64 fo) ∧ W.cell? ⟨b4, 3, none⟩ = some (.slice At nt ct) ∧ W.cell? ⟨b4, 4, none⟩ = some (.slice Ag ng cg))) (by kernel_rfl) hks0 (fun hHeld => ?_)
  refine wpAnyH_take (i := 0) (oi := ?oi_1) (v := ?_) ?hi_1 (by kernel_rfl) ?hf_1 (by kernel_rfl) ?hQ_1 ?hy_1 (by assumption) ?_
  case hi_1 => simp only [List.getElem?_toArray, List.getElem?_cons_zero, List.getElem?_cons_succ]; try rfl
  case hf_1 => kernel_rfl
  case hQ_1 => exact fun _ _ _ h => h
  case hy_1 =>
    refine Or.inl ⟨by rfl, ?_⟩
    intro W hSw
    obtain ⟨q0, q1, q2, q3, q4, q5, q6, q7, q8, q9⟩ := hSw
    go_simp
    try with_reducible rfl
  try simp only [Act.put, List.setIfInBounds_toArray, List.set_cons_zero, List.set_cons_succ]
  refine wpAnyH_take (i := 1) (oi := ?oi_2) (v := ?_) ?hi_2 (by kernel_rfl) ?hf_2 (by kernel_rfl) ?hQ_2 ?hy_2 (by assumption) ?_
  case hi_2 => simp only [List.getElem?_toArray, List.getElem?_cons_zero, List.getElem?_cons_succ]; try rfl
  case hf_2 => kernel_rfl
  case hQ_2 => exact fun _ _ _ h => h
  case hy_2 =>
    refine Or.inl ⟨by rfl, ?_⟩
    intro W hSw
    obtain ⟨q0, q1, q2, q3, q4, q5, q6, q7, q8, q9⟩ := hSw
    go_simp
    try with_reducible rfl
  try simp only [Act.put, List.setIfInBounds_toArray, List.set_cons_zero, List.set_cons_succ]
  refine wpAnyH_take (i := 3) (oi := ?oi_3) (v := ?_) ?hi_3 (by kernel_rfl) ?hf_3 (by kernel_rfl) ?hQ_3 ?hy_3 (by assumption) ?_
  case hi_3 => simp only [List.getElem?_toArray, List.getElem?_cons_zero, List.getElem?_cons_succ]; try rfl
  case hf_3 => kernel_rfl
  case hQ_3 => exact fun _ _ _ h => h
  case hy_3 =>
    refine Or.inl ⟨by rfl, ?_⟩
    intro W hSw
    obtain ⟨q0, q1, q2, q3, q4, q5, q6, q7, q8, q9⟩ := hSw
    go_simp
    try with_reducible rfl
  try simp only [Act.put, List.setIfInBounds_toArray, List.set_cons_zero, List.set_cons_succ]
  refine wpAnyH_take (i := 4) (oi := ?oi_4) (v := ?_) ?hi_4 (by kernel_rfl) ?hf_4 (by kernel_rfl) ?hQ_4 ?hy_4 (by assumption) ?_
  case hi_4 => simp only [List.getElem?_toArray, List.getElem?_cons_zero, List.getElem?_cons_succ]; try rfl
  case hf_4 => kernel_rfl
  case hQ_4 => exact fun _ _ _ h => h
  case hy_4 =>
    refine Or.inl ⟨by rfl, ?_⟩
    intro W hSw
    obtain ⟨q0, q1, q2, q3, q4, q5, q6, q7, q8, q9⟩ := hSw
    go_simp
    try with_reducible rfl
  try simp only [Act.put, List.setIfInBounds_toArray, List.set_cons_zero, List.set_cons_succ]
  refine wpAnyH_ready (rs := [2, 5]) (by kernel_rfl) (by simp) ?_
  refine AllReadyH.cons (o := ?oi_11_0) ?hi_11_0 (fun K hK => ?_) (AllReadyH.cons (o := ?oi_11_1) ?hi_11_1 (fun K hK => ?_) AllReadyH.nil)
  case hi_11_0 => simp only [List.getElem?_toArray, List.getElem?_cons_zero, List.getElem?_cons_succ]; try rfl
  case hi_11_1 => simp only [List.getElem?_toArray, List.getElem?_cons_zero, List.getElem?_cons_succ]; try rfl
  · go_simp
    have HVA : Hid (Below W5.heap.size W5 (W5.alloc (.cells #[.string (bs nl)] 9)).drew) := Lib.hid (below_drew ((Below.refl _ _).alloc (Nat.le_refl _) _))
    have HRo : Hid ((W5.alloc (.cells #[.string (bs nl)] 9)).drew.ownsRow W5.heap.size 9 1 (.slice (some ⟨W5.heap.size, 0, none⟩) 1 1) 1 ([nl].map Sv)) := Lib.hid (own_one W5 W5.heap.size nl (Nat.le_refl _))
    have hk_ := HKS.out _ HVA.out
    refine hK.out _ _ hk_ (fun hHeld => ?_)
    clear hK K
    try simp only [Act.put, List.setIfInBounds_toArray, List.set_cons_zero, List.set_cons_succ]
    refine wpAnyH_ready (rs := [5]) (by kernel_rfl) (by simp) ?_
    refine AllReadyH.cons (o := ?oi_7_0) ?hi_7_0 (fun K hK => ?_) AllReadyH.nil
    case hi_7_0 => simp only [List.getElem?_toArray, List.getElem?_cons_zero, List.getElem?_cons_succ]; try rfl
    go_simp
    (go_at_call 39
     (with_reducible refine (HWD.out At ct Ag cg _ (HB5.out.trans (HVA.out.mono HB5.out.size))).mono ?_)
     rintro e w7 ⟨v18, rfl, hown, hb7⟩
     have HV7 := Lib.hid (HVA.out.trans (hb7.mono HVA.out.size))
     have HO7 := Lib.hid (own_base hown ((HB5.out.trans (HVA.out.mono HB5.out.size)).size))
     have HR7 := Lib.hid (own_kept HRo.out hb7)
     have hk_ := HKS.out _ HV7.out
     clear hown hb7)
    refine hK.out _ _ hk_ (fun hHeld => ?_)
    clear hK K
    try simp only [Act.put, List.setIfInBounds_toArray, List.set_cons_zero, List.set_cons_succ]
    refine wpAnyH_ready (rs := [6]) (by kernel_rfl) (by simp) ?_
    refine AllReadyH.cons (o := ?oi_6_0) ?hi_6_0 (fun K hK => ?_) AllReadyH.nil
    case hi_6_0 => simp only [List.getElem?_toArray, List.getElem?_cons_zero, List.getElem?_cons_succ]; try rfl
    obtain ⟨v19, w19, hr, ho, hg⟩ := app_str _ W5.heap.size w.heap.size 1 ws.length _ _ [nl] ws HR7.out HO7.out (by have := HWL.out; omega) HV7.out.size
    have HB9 := Lib.hid (own_below0 HV7.out HR7.out hg HV7.out.size)
    have HO9 := Lib.hid ho
    have hk_ := HKS.out _ HB9.out
    refine step_append_run rfl (.tmp 15) (.tmp 18) 73 rfl _ _ v19 w19 rfl rfl hr ?_
    clear hr ho hg
    refine hK.out _ _ hk_ (fun hHeld => ?_)
    clear hK K
    try simp only [Act.put, List.setIfInBounds_toArray, List.set_cons_zero, List.set_cons_succ]
    refine wpAnyH_take (i := 7) (oi := ?oi_5) (v := ?_) ?hi_5 (by kernel_rfl) ?hf_5 (by kernel_rfl) ?hQ_5 ?hy_5 (by assumption) ?_
    case hi_5 => simp only [List.getElem?_toArray, List.getElem?_cons_zero, List.getElem?_cons_succ]; try rfl
    case hf_5 => kernel_rfl
    case hQ_5 => exact fun _ _ _ h => h
    case hy_5 =>
      refine Or.inl ⟨by rfl, ?_⟩
      intro W hSw
      obtain ⟨q0, q1, q2, q3, q4, q5, q6, q7, q8, q9⟩ := hSw
      go_simp
      try with_reducible rfl
    try simp only [Act.put, List.setIfInBounds_toArray, List.set_cons_zero, List.set_cons_succ]
    refine wpAnyH_done (by kernel_rfl) ?_ _
    refine NoPanic.normal ?_
    clear hHeld
    obtain ⟨g9, cp9, e9, q1, q2⟩ := own_some HO9.out (by omega)
    subst e9
    unfold maxLen at q2
    have HJ := Lib.hid (join_ok g9 (1 + ws.length) cp9 (nl :: ws) w19 W5.heap.size HO9.out (by simp; omega) q1 (by have := HWL.out; simp only [List.length_cons]; omega) HJL.out)
    have HB19 := Lib.hid (HB5.out.trans (HB9.out.mono HB5.out.size))
    go_wp2_with (go_at_call 40; (with_reducible refine HJ.out.mono ?_); rintro e w20 ⟨rfl, hb20⟩; have HB20 := Lib.hid (HB19.out.trans (hb20.mono HB19.out.size)); clear hb20)
    go_ret
    exact ⟨rfl, HB20.out⟩
  · go_simp
    (go_at_call 39
     (with_reducible refine (HWD.out At ct Ag cg _ (HB5.out.trans (HVD.out.mono HB5.out.size))).mono ?_)
     rintro e w7 ⟨v18, rfl, hown, hb7⟩
     have HV7 := Lib.hid (HVD.out.trans (hb7.mono HVD.out.size))
     have HO7 := Lib.hid (own_base hown ((HB5.out.trans (HVD.out.mono HB5.out.size)).size))
     have hk_ := HKS.out _ HV7.out
     clear hown hb7)
    refine hK.out _ _ hk_ (fun hHeld => ?_)
    clear hK K
    try simp only [Act.put, List.setIfInBounds_toArray, List.set_cons_zero, List.set_cons_succ]
    refine wpAnyH_ready (rs := [2]) (by kernel_rfl) (by simp) ?_
    refine AllReadyH.cons (o := ?oi_10_0) ?hi_10_0 (fun K hK => ?_) AllReadyH.nil
    case hi_10_0 => simp only [List.getElem?_toArray, List.getElem?_cons_zero, List.getElem?_cons_succ]; try rfl
    go_simp
    have HVA := Lib.hid (HV7.out.alloc HV7.out.size (.cells #[.string (bs nl)] 9))
    have HRo := Lib.hid (own_one w7 W5.heap.size nl HV7.out.size)
    have HO8 := Lib.hid (own_kept HO7.out ((Below.refl _ _).alloc (Nat.le_refl _) (.cells #[.string (bs nl)] 9)))
    have hk_ := HKS.out _ HVA.out
    refine hK.out _ _ hk_ (fun hHeld => ?_)
    clear hK K
    try simp only [Act.put, List.setIfInBounds_toArray, List.set_cons_zero, List.set_cons_succ]
    refine wpAnyH_ready (rs := [6]) (by kernel_rfl) (by simp) ?_
    refine AllReadyH.cons (o := ?oi_9_0) ?hi_9_0 (fun K hK => ?_) AllReadyH.nil
    case hi_9_0 => simp only [List.getElem?_toArray, List.getElem?_cons_zero, List.getElem?_cons_succ]; try rfl
    obtain ⟨v19, w19, hr, ho, hg⟩ := app_str _ W5.heap.size w.heap.size 1 ws.length _ _ [nl] ws HRo.out HO8.out (by have := HWL.out; omega) HVA.out.size
    have HB9 := Lib.hid (own_below0 HVA.out HRo.out hg HVA.out.size)
    have HO9 := Lib.hid ho
    have hk_ := HKS.out _ HB9.out
    refine step_append_run rfl (.tmp 15) (.tmp 18) 73 rfl _ _ v19 w19 rfl rfl hr ?_
    clear hr ho hg
    refine hK.out _ _ hk_ (fun hHeld => ?_)
    clear hK K
    try simp only [Act.put, List.setIfInBounds_toArray, List.set_cons_zero, List.set_cons_succ]
    refine wpAnyH_take (i := 7) (oi := ?oi_8) (v := ?_) ?hi_8 (by kernel_rfl) ?hf_8 (by kernel_rfl) ?hQ_8 ?hy_8 (by assumption) ?_
    case hi_8 => simp only [List.getElem?_toArray, List.getElem?_cons_zero, List.getElem?_cons_succ]; try rfl
    case hf_8 => kernel_rfl
    case hQ_8 => exact fun _ _ _ h => h
    case hy_8 =>
      refine Or.inl ⟨by rfl, ?_⟩
      intro W hSw
      obtain ⟨q0, q1, q2, q3, q4, q5, q6, q7, q8, q9⟩ := hSw
      go_simp
      try with_reducible rfl
    try simp only [Act.put, List.setIfInBounds_toArray, List.set_cons_zero, List.set_cons_succ]
    refine wpAnyH_done (by kernel_rfl) ?_ _
    refine NoPanic.normal ?_
    clear hHeld
    obtain ⟨g9, cp9, e9, q1, q2⟩ := own_some HO9.out (by omega)
    subst e9
    unfold maxLen at q2
    have HJ := Lib.hid (join_ok g9 (1 + ws.length) cp9 (nl :: ws) w19 W5.heap.size HO9.out (by simp; omega) q1 (by have := HWL.out; simp only [List.length_cons]; omega) HJL.out)
    have HB19 := Lib.hid (HB5.out.trans (HB9.out.mono HB5.out.size))
    go_wp2_with (go_at_call 40; (with_reducible refine HJ.out.mono ?_); rintro e w20 ⟨rfl, hb20⟩; have HB20 := Lib.hid (HB19.out.trans (hb20.mono HB19.out.size)); clear hb20)
    go_ret
    exact ⟨rfl, HB20.out⟩
end Go.Proofs.YtggfaalodojjkaaGreatDoor
/-
  instr: the words that guess reads, one by one: its closure.
-/
namespace Go.Proofs.YtggfaalodojjkaaGreatDoor
open Go.RowKit
set_option linter.unusedVariables false
set_option linter.unusedSimpArgs false
/-- a slice of strings that can be read -/
def Ss (w : World) (A : Option Addr) (n c : Nat) (l : List (List UInt8)) : Prop :=
  l.length = n ∧ n ≤ c ∧ c ≤ maxLen ∧ (0 < n → ∃ g o, A = some ⟨g, o, none⟩ ∧ g < w.heap.size ∧ ∀ i, i < n → w.cell? ⟨g, o + i, none⟩ = some (Sv (l.getD i [])))
theorem Ss.below {w w' : World} {A : Option Addr} {n c : Nat} {l : List (List UInt8)} (h : Ss w A n c l) (hb : Below w.heap.size w w') : Ss w' A n c l := by
  obtain ⟨h1, h2, h3, h4⟩ := h
  refine ⟨h1, h2, h3, fun h0 => ?_⟩
  obtain ⟨g, o, e, hg, hc⟩ := h4 h0
  exact ⟨g, o, e, Nat.lt_of_lt_of_le hg hb.size, fun i hi => (hb.cell (p := ⟨g, o + i, none⟩) hg).trans (hc i hi)⟩
set_option maxHeartbeats 4000000 in
set_option maxRecDepth 100000 in
theorem num_some (bt : Int) (bw : Nat) (g o n c : Nat) (S : List UInt8) (O : Option Nat) (w : World) (hn : 0 < n) (hnc : n ≤ c) (hc : c ≤ 9223372036854775807) (hB : Blk w bw 73 #[.slice (some ⟨g, o, none⟩) n c]) (hS : w.cell? ⟨g, o, none⟩ = some (Sv S))
    (HP : Calls Tryz.prog 83 #[.int .i64 bt, .string (bs S)] w (PaP O w)) :
    Calls Tryz.prog 82 #[.int .i64 bt, .pointer (some ⟨bw, 0, none⟩)] w fun e w' => e = .returned (.int .u64 ((O.getD 0 : Nat) : Int)) ∧ ∃ A', Blk w' bw 73 #[.slice A' (n - 1) (c - 1)] ∧ (0 < n - 1 → A' = some ⟨g, o + 1, none⟩) ∧ Fr (· = bw) w w' := by
  have x0 : w.cell? ⟨bw, 0, none⟩ = some (.slice (some ⟨g, o, none⟩) n c) := hB.cell 0
  have x1 : w.cell? ⟨g, o, none⟩ = some (.string (bs S)) := hS
  have HBK := Lib.hid (fun V (hV : Below w.heap.size w V) => hB.below hV hB.lt)
  have H := Lib.hid HP
  have hn0 : ((n : Int) == 0) = false := by simp; omega
  unfold PaP at H
  generalize O.getD 0 = z at H ⊢
  generalize (if O.isSome = true then (0 : Int) else 4) = z2 at H
  clear hB hS HP
  have HQ := Lib.hid (fun (V : World) (hV : Below w.heap.size w V) (A' : Option Addr) (m k : Nat) => (And.intro ((HBK.out V hV).set_ 0 (.slice A' m k)) ((Fr.of_below (S := (· = bw)) hV).set_ (p := ⟨bw, 0, none⟩) rfl (.slice A' m k))))
  by_cases hc1 : c = 1
  · subst hc1
    obtain rfl : n = 1 := by omega
    go_enter Tryz.func82, Tryz.ntmps82
    go_wp2_with (go_at_call 83; (with_reducible refine H.out.mono ?_); rintro e w1 ⟨rfl, hb⟩; have HB := Lib.hid hb; have x2 : w1.cell? ⟨bw, 0, none⟩ = some (.slice (some ⟨g, o, none⟩) 1 1) := (HBK.out _ hb).cell 0; have x3 := (HBK.out _ hb).frozen 0; clear hb)
    go_ret
    obtain ⟨q1, q2⟩ := HQ.out w1 HB.out (some ⟨g, o, none⟩) 0 0
    exact ⟨rfl, _, q1, fun h => by omega, q2⟩
  · go_enter Tryz.func82, Tryz.ntmps82
    go_wp2_with (go_at_call 83; (with_reducible refine H.out.mono ?_); rintro e w1 ⟨rfl, hb⟩; have HB := Lib.hid hb; have x2 : w1.cell? ⟨bw, 0, none⟩ = some (.slice (some ⟨g, o, none⟩) n c) := (HBK.out _ hb).cell 0; have x3 := (HBK.out _ hb).frozen 0; clear hb)
    go_ret
    obtain ⟨q1, q2⟩ := HQ.out w1 HB.out (some ⟨g, o + 1, none⟩) (n - 1) (c - 1)
    exact ⟨rfl, _, q1, fun h => rfl, q2⟩
theorem num_none (bt : Int) (bw : Nat) (A : Option Addr) (c : Nat) (w : World) (h : w.cell? ⟨bw, 0, none⟩ = some (.slice A 0 c)) :
    Calls Tryz.prog 82 #[.int .i64 bt, .pointer (some ⟨bw, 0, none⟩)] w fun e w' => e = .returned (.int .u64 0) ∧ w = w' := by
  go_enter Tryz.func82, Tryz.ntmps82
  go_wp2
  go_ret
  exact ⟨rfl, rfl⟩
end Go.Proofs.YtggfaalodojjkaaGreatDoor
/-
  instr: guess, of numbers alone.
-/
namespace Go.Proofs.YtggfaalodojjkaaGreatDoor
open Go.RowKit
set_option linter.unusedVariables false
set_option linter.unusedSimpArgs false
/-- words left to be read: k of n are read -/
def NI (w V : World) (bw n k g o : Nat) : Prop := ∃ A' c', Blk V bw 73 #[.slice A' (n - k) c'] ∧ n - k ≤ c' ∧ c' ≤ 9223372036854775807 ∧ (0 < n - k → A' = some ⟨g, o + k, none⟩) ∧ Below w.heap.size w V
def nvl (oz : List UInt8 → Option Nat) (l : List (List UInt8)) (k : Nat) : Nat := if k < l.length then (oz (l.getD k [])).getD 0 else 0
theorem num_any (bt : Int) (w V : World) (bw n k g o : Nat) (l : List (List UInt8)) (oz : List UInt8 → Option Nat) (hl : l.length = n) (hg : 0 < n → g < w.heap.size) (hbw : w.heap.size ≤ bw) (hc : ∀ i, i < n → w.cell? ⟨g, o + i, none⟩ = some (Sv (l.getD i [])))
    (HP : k < n → ∀ U, Below w.heap.size w U → Calls Tryz.prog 83 #[.int .i64 bt, .string (bs (l.getD k []))] U (PaP (oz (l.getD k [])) U)) (h : NI w V bw n k g o) :
    Calls Tryz.prog 82 #[.int .i64 bt, .pointer (some ⟨bw, 0, none⟩)] V fun e V' => e = .returned (.int .u64 ((nvl oz l k : Nat) : Int)) ∧ NI w V' bw n (k + 1) g o ∧ Fr (· = bw) V V' := by
  obtain ⟨A', c', hB, h1, h2, h3, h4⟩ := h
  by_cases hk : k < n
  · obtain rfl := h3 (by omega)
    have hx : V.cell? ⟨g, o + k, none⟩ = some (Sv (l.getD k [])) := (h4.cell (p := ⟨g, o + k, none⟩) (hg (by omega))).trans (hc k hk)
    refine (num_some bt bw g (o + k) (n - k) c' (l.getD k []) (oz (l.getD k [])) V (by omega) h1 h2 hB hx (HP hk V h4)).mono ?_
    rintro e V' ⟨rfl, A2, q1, q2, q3⟩
    refine ⟨by unfold nvl; rw [if_pos (by omega)], ⟨A2, c' - 1, ?_, by omega, by omega, fun h => ?_, ?_⟩, q3⟩
    · rw [show n - (k + 1) = n - k - 1 from by omega]; exact q1
    · rw [q2 (by omega)]; rfl
    · exact q3.below h4 h4.size (fun j hj => by omega)
  · have e : n - k = 0 := by omega
    rw [e] at hB
    refine (num_none bt bw A' c' V (hB.cell 0)).mono ?_
    rintro e w' ⟨rfl, rfl⟩
    refine ⟨by unfold nvl; rw [if_neg (by omega)]; rfl, ⟨A', c', ?_, by omega, h2, fun h => by omega, h4⟩, Fr.refl _ _⟩
    rw [show n - (k + 1) = 0 from by omega]; exact hB
def GuP (x : In) (w : World) (e : Ending) (w' : World) : Prop := ∃ A n c, e = .returned (.agg (I5 x (.slice A n c)).toArray) ∧ Sl w' A n c x.l ∧ Below w.heap.size w w' ∧ (∀ p, A = some p → w.heap.size ≤ p.block) ∧ ∀ p, A = some p → p.block < w'.heap.size
theorem results49 : Tryz.f49.results = #[.cell 4 30] := by kernel_rfl
theorem wpList_store30 {ops : Array Oper} {rest : List Oper} {o : Oper} {a : Act} {w : World} {Q : Exit → Act → World → Prop} (hgd : o.guard = none) (x y : Operand) (ho : o.op = .store 30 x y)
    (g : Nat) (old : Array Value) (c p q r : Int) (A : Option Addr) (n cp : Nat) (hx : a.eval x = .pointer (some ⟨g, 0, none⟩)) (hy : a.eval y = .agg #[.int .i64 c, .int .u64 p, .int .u64 q, .int .i64 r, .slice A n cp])
    (hg : Blk w g 30 old) (hold : Hid (old.size = 5))
    (h : wpList Tryz.prog ops Q rest (a.put o.dst undef) (w.setRow g #[.int .i64 c, .int .u64 p, .int .u64 q, .int .i64 r, .slice A n cp])) : wpList Tryz.prog ops Q (o :: rest) a w :=
  wpList_store_row hgd 30 x y ho g _ hx hy 30 old hg (by kernel_rfl) (by rw [hold.out]; rfl) (by simp [Value.oneCell']) h
theorem heap4 (w : World) (a b c d : Obj) : ((((w.alloc a).alloc b).alloc c).alloc d).heap[w.heap.size + 1 + 1 + 1]? = some d ∧ ((((w.alloc a).alloc b).alloc c).alloc d).heap[w.heap.size + 1 + 1]? = some c ∧ ((((w.alloc a).alloc b).alloc c).alloc d).heap[w.heap.size + 1]? = some b ∧ ((((w.alloc a).alloc b).alloc c).alloc d).heap[w.heap.size]? = some a := by
  have ha := heap_alloc_new w a
  have hb := heap_alloc_new (w.alloc a) b
  have hc := heap_alloc_new ((w.alloc a).alloc b) c
  have hd := heap_alloc_new (((w.alloc a).alloc b).alloc c) d
  have ea : (w.alloc a).heap.size = w.heap.size + 1 := by simp
  have eb : ((w.alloc a).alloc b).heap.size = w.heap.size + 1 + 1 := by simp
  have ec : (((w.alloc a).alloc b).alloc c).heap.size = w.heap.size + 1 + 1 + 1 := by simp
  rw [ea] at hb
  rw [eb] at hc
  rw [ec] at hd
  have k1 := (Fr.of_below (S := fun _ => False) (((((Below.refl (w.alloc a).heap.size (w.alloc a)).alloc (Nat.le_refl _) b).alloc (by simp) c).alloc (by simp) d)))
  have k2 := (Fr.of_below (S := fun _ => False) ((((Below.refl ((w.alloc a).alloc b).heap.size ((w.alloc a).alloc b)).alloc (Nat.le_refl _) c).alloc (by simp) d)))
  have k3 := (Fr.of_below (S := fun _ => False) (((Below.refl (((w.alloc a).alloc b).alloc c).heap.size (((w.alloc a).alloc b).alloc c)).alloc (Nat.le_refl _) d)))
  exact ⟨hd, k3.keep hc (fun h => h), k2.keep hb (fun h => h), k1.keep ha (fun h => h)⟩
set_option maxHeartbeats 4000000 in
set_option maxRecDepth 100000 in
theorem guess_0 (fi  : Int) (nm : ByteArray) (At Ag : Option Addr) (nt ct ng cg : Nat) (hnt : nt ≤ ct) (hct : ct ≤ 9223372036854775807) (hng : ng ≤ cg) (hcg : cg ≤ 9223372036854775807) (A : Option Addr) (n c : Nat) (l : List (List UInt8)) (oz : List UInt8 → Option Nat) (w : World) (hl : Ss w A n c l)
    (HP : ∀ k, k < n → ∀ U, Below w.heap.size w U → Calls Tryz.prog 83 #[.int .i64 64, .string (bs (l.getD k []))] U (PaP (oz (l.getD k [])) U))  :
    Calls Tryz.prog 49 #[.agg #[.int .i64 fi, .string nm, .int .i64 0, .slice At nt ct, .slice Ag ng cg], .slice A n c] w (GuP ⟨fi, 0, 0, 0, []⟩ w) := by
  obtain ⟨hln, hnc, hcm, hcl⟩ := hl
  unfold maxLen at hcm
  obtain ⟨g, o, hA, hg, hcc⟩ : ∃ g o, (0 < n → A = some ⟨g, o, none⟩) ∧ (0 < n → g < w.heap.size) ∧ ∀ i, i < n → w.cell? ⟨g, o + i, none⟩ = some (Sv (l.getD i [])) := by
    rcases Nat.eq_zero_or_pos n with h0 | h0
    · exact ⟨0, 0, fun h => by omega, fun h => by omega, fun i hi => by omega⟩
    · obtain ⟨g, o, e, h1, h2⟩ := hcl h0
      exact ⟨g, o, fun _ => e, fun _ => h1, h2⟩
  obtain ⟨W6, hW6⟩ : ∃ V, V = (((w.alloc (.cells #[.int .i64 fi, .string nm, .int .i64 0, .slice At nt ct, .slice Ag ng cg] 61)).alloc (.cells #[.slice A n c] 73)).alloc (.cells #[.int .i64 0, .int .u64 0, .int .u64 0, .int .i64 0, .slice none 0 0] 30)).alloc (.cells #[.int .i64 fi, .int .u64 0, .int .u64 0, .int .i64 0, .slice none 0 0] 30) := ⟨_, rfl⟩
  have hb6 : Below w.heap.size w W6 := by rw [hW6]; exact ((((Below.refl w.heap.size w).alloc (Nat.le_refl _) _).alloc (by simp) _).alloc (by simp; omega) _).alloc (by simp; omega) _
  obtain ⟨g3, g2, g1, g0⟩ := heap4 w (.cells #[.int .i64 fi, .string nm, .int .i64 0, .slice At nt ct, .slice Ag ng cg] 61) (.cells #[.slice A n c] 73) (.cells #[.int .i64 0, .int .u64 0, .int .u64 0, .int .i64 0, .slice none 0 0] 30) (.cells #[.int .i64 fi, .int .u64 0, .int .u64 0, .int .i64 0, .slice none 0 0] 30)
  rw [← hW6] at g3 g2 g1 g0
  obtain ⟨bw, hbw⟩ : ∃ x, x = w.heap.size + 1 := ⟨_, rfl⟩
  obtain ⟨b4, hb4⟩ : ∃ x, x = w.heap.size + 1 + 1 := ⟨_, rfl⟩
  obtain ⟨b6, hb66⟩ : ∃ x, x = w.heap.size + 1 + 1 + 1 := ⟨_, rfl⟩
  rw [← hb66] at g3
  rw [← hb4] at g2
  rw [← hbw] at g1
  have e1 : ¬ b6 = bw := by omega
  have e2 : ¬ b4 = bw := by omega
  have e3 : ¬ b4 = b6 := by omega
  have e4 : w.heap.size ≤ b6 := by omega
  have e5 : w.heap.size ≤ b4 := by omega
  have HBW := Lib.hid hbw
  have HB4 := Lib.hid hb4
  have HBB6 := Lib.hid hb66
  have HNI : Hid (NI w W6 bw n 0 g o) := Lib.hid ⟨A, c, g1, by omega, hcm, fun h => by rw [hA (by omega)]; rfl, hb6⟩
  have HNu := Lib.hid (fun k V (h : NI w V bw n k g o) => num_any 64 w V bw n k g o l oz hln hg (by omega) hcc (HP k) h)
  have HX : Hid (Blk W6 b6 30 #[.int .i64 fi, .int .u64 0, .int .u64 0, .int .i64 0, .slice none 0 0]) := Lib.hid g3
  have HR : Hid (Blk W6 b4 30 #[.int .i64 0, .int .u64 0, .int .u64 0, .int .i64 0, .slice none 0 0]) := Lib.hid g2
  have HW6 := Lib.hid hW6
  have HB6 := Lib.hid hb6
  have c2 : W6.cell? ⟨w.heap.size, 2, none⟩ = some (.int .i64 0) := by
    have : Blk W6 w.heap.size 61 #[.int .i64 fi, .string nm, .int .i64 0, .slice At nt ct, .slice Ag ng cg] := g0
    exact this.cell 2
  clear hbw hb4 hb66 hW6 hb6 g3 g2 g1 g0 HP hcc hcl hA hg hln
  go_enter Tryz.func49, Tryz.ntmps49
  go_upto_region 3 with fail
  rw [← HBB6.out, ← HB4.out, ← HBW.out]
  rw [← HW6.out]
  have HXB := HX
  have HRB := HR
  have HBV := HB6
  go_upto_region 19 with fail
  obtain ⟨W9, hW9⟩ : ∃ U, U = W6 := ⟨_, rfl⟩
  rw [← hW9]
  have xe : Blk W9 b6 30 #[.int .i64 fi, .int .u64 0, .int .u64 0, .int .i64 0, .slice none 0 0] := by rw [hW9]; exact HXB.out
  have re : Blk W9 b4 30 #[.int .i64 0, .int .u64 0, .int .u64 0, .int .i64 0, .slice none 0 0] := by rw [hW9]; exact HRB.out
  have bl : Below w.heap.size w W9 := by rw [hW9]; exact HBV.out
  have y0 : W9.cell? ⟨b6, 0, none⟩ = some (.int .i64 fi) := xe.cell 0
  have y1 : W9.cell? ⟨b6, 1, none⟩ = some (.int .u64 0) := xe.cell 1
  have y2 : W9.cell? ⟨b6, 2, none⟩ = some (.int .u64 0) := xe.cell 2
  have y3 : W9.cell? ⟨b6, 3, none⟩ = some (.int .i64 0) := xe.cell 3
  have y4 : W9.cell? ⟨b6, 4, none⟩ = some (.slice none 0 0) := xe.cell 4
  have HRE := Lib.hid re
  have HBL := Lib.hid bl
  clear xe re bl hW9
  go_wp2_with (refine wpList_store30 rfl (.tmp 4) (.tmp 66) rfl b4 _ _ _ _ _ _ _ _ rfl rfl HRE.out (Lib.hid rfl) ?_)
  refine bodyPost_ret (v := .agg #[.int .i64 fi, .int .u64 0, .int .u64 0, .int .i64 0, .slice none 0 0]) (results_cell_row results49 _ _ b4 30 _ (0, 0) _ rfl (setRow_heap _ b4 _ _ 30 (0, 0) HRE.out) Tryz.underlying30 rfl (by kernel_rfl)) rfl ?_
  exact ⟨none, 0, 0, by first | rfl | skip, ⟨rfl, Nat.le_refl _, by unfold maxLen; omega, fun h => by omega⟩, below_setRow HBL.out e5 _, (fun p h => by cases h), (fun p h => by cases h)⟩
set_option maxHeartbeats 4000000 in
set_option maxRecDepth 100000 in
theorem guess_5 (fi  : Int) (nm : ByteArray) (At Ag : Option Addr) (nt ct ng cg : Nat) (hnt : nt ≤ ct) (hct : ct ≤ 9223372036854775807) (hng : ng ≤ cg) (hcg : cg ≤ 9223372036854775807) (A : Option Addr) (n c : Nat) (l : List (List UInt8)) (oz : List UInt8 → Option Nat) (w : World) (hl : Ss w A n c l)
    (HP : ∀ k, k < n → ∀ U, Below w.heap.size w U → Calls Tryz.prog 83 #[.int .i64 64, .string (bs (l.getD k []))] U (PaP (oz (l.getD k [])) U))  :
    Calls Tryz.prog 49 #[.agg #[.int .i64 fi, .string nm, .int .i64 5, .slice At nt ct, .slice Ag ng cg], .slice A n c] w (GuP ⟨fi, ((nvl oz l 0 : Nat) : Int), ((nvl oz l 1 : Nat) : Int), 0, []⟩ w) := by
  obtain ⟨hln, hnc, hcm, hcl⟩ := hl
  unfold maxLen at hcm
  obtain ⟨g, o, hA, hg, hcc⟩ : ∃ g o, (0 < n → A = some ⟨g, o, none⟩) ∧ (0 < n → g < w.heap.size) ∧ ∀ i, i < n → w.cell? ⟨g, o + i, none⟩ = some (Sv (l.getD i [])) := by
    rcases Nat.eq_zero_or_pos n with h0 | h0
    · exact ⟨0, 0, fun h => by omega, fun h => by omega, fun i hi => by omega⟩
    · obtain ⟨g, o, e, h1, h2⟩ := hcl h0
      exact ⟨g, o, fun _ => e, fun _ => h1, h2⟩
  obtain ⟨W6, hW6⟩ : ∃ V, V = (((w.alloc (.cells #[.int .i64 fi, .string nm, .int .i64 5, .slice At nt ct, .slice Ag ng cg] 61)).alloc (.cells #[.slice A n c] 73)).alloc (.cells #[.int .i64 0, .int .u64 0, .int .u64 0, .int .i64 0, .slice none 0 0] 30)).alloc (.cells #[.int .i64 fi, .int .u64 0, .int .u64 0, .int .i64 0, .slice none 0 0] 30) := ⟨_, rfl⟩
  have hb6 : Below w.heap.size w W6 := by rw [hW6]; exact ((((Below.refl w.heap.size w).alloc (Nat.le_refl _) _).alloc (by simp) _).alloc (by simp; omega) _).alloc (by simp; omega) _
  obtain ⟨g3, g2, g1, g0⟩ := heap4 w (.cells #[.int .i64 fi, .string nm, .int .i64 5, .slice At nt ct, .slice Ag ng cg] 61) (.cells #[.slice A n c] 73) (.cells #[.int .i64 0, .int .u64 0, .int .u64 0, .int .i64 0, .slice none 0 0] 30) (.cells #[.int .i64 fi, .int .u64 0, .int .u64 0, .int .i64 0, .slice none 0 0] 30)
  rw [← hW6] at g3 g2 g1 g0
  obtain ⟨bw, hbw⟩ : ∃ x, x = w.heap.size + 1 := ⟨_, rfl⟩
  obtain ⟨b4, hb4⟩ : ∃ x, x = w.heap.size + 1 + 1 := ⟨_, rfl⟩
  obtain ⟨b6, hb66⟩ : ∃ x, x = w.heap.size + 1 + 1 + 1 := ⟨_, rfl⟩
  rw [← hb66] at g3
  rw [← hb4] at g2
  rw [← hbw] at g1
  have e1 : ¬ b6 = bw := by omega
  have e2 : ¬ b4 = bw := by omega
  have e3 : ¬ b4 = b6 := by omega
  have e4 : w.heap.size ≤ b6 := by omega
  have e5 : w.heap.size ≤ b4 := by omega
  have HBW := Lib.hid hbw
  have HB4 := Lib.hid hb4
  have HBB6 := Lib.hid hb66
  have HNI : Hid (NI w W6 bw n 0 g o) := Lib.hid ⟨A, c, g1, by omega, hcm, fun h => by rw [hA (by omega)]; rfl, hb6⟩
  have HNu := Lib.hid (fun k V (h : NI w V bw n k g o) => num_any 64 w V bw n k g o l oz hln hg (by omega) hcc (HP k) h)
  have HX : Hid (Blk W6 b6 30 #[.int .i64 fi, .int .u64 0, .int .u64 0, .int .i64 0, .slice none 0 0]) := Lib.hid g3
  have HR : Hid (Blk W6 b4 30 #[.int .i64 0, .int .u64 0, .int .u64 0, .int .i64 0, .slice none 0 0]) := Lib.hid g2
  have HW6 := Lib.hid hW6
  have HB6 := Lib.hid hb6
  have c2 : W6.cell? ⟨w.heap.size, 2, none⟩ = some (.int .i64 5) := by
    have : Blk W6 w.heap.size 61 #[.int .i64 fi, .string nm, .int .i64 5, .slice At nt ct, .slice Ag ng cg] := g0
    exact this.cell 2
  clear hbw hb4 hb66 hW6 hb6 g3 g2 g1 g0 HP hcc hcl hA hg hln
  obtain ⟨z0, hz0⟩ : ∃ z, z = nvl oz l 0 := ⟨_, rfl⟩
  obtain ⟨z1, hz1⟩ : ∃ z, z = nvl oz l 1 := ⟨_, rfl⟩
  rw [← hz0]
  rw [← hz1]
  have HZ0 := Lib.hid hz0
  clear hz0
  have HZ1 := Lib.hid hz1
  clear hz1
  go_enter Tryz.func49, Tryz.ntmps49
  go_upto_region 3 with fail
  rw [← HBB6.out, ← HB4.out, ← HBW.out]
  rw [← HW6.out]
  go_wp2_with fail
  refine (HNu.out 0 _ HNI.out).mono ?_
  rintro e V0 ⟨rfl, ni0, fr0⟩
  rw [← HZ0.out]
  have HNI0 := Lib.hid ni0
  have HFR0 := Lib.hid fr0
  clear ni0 fr0
  have HF0 := HFR0
  go_wp2_with fail
  refine (HNu.out 1 _ HNI0.out).mono ?_
  rintro e V1 ⟨rfl, ni1, fr1⟩
  rw [← HZ1.out]
  have HNI1 := Lib.hid ni1
  have HFR1 := Lib.hid fr1
  clear ni1 fr1
  have HF1 := Lib.hid (HF0.out.trans HFR1.out)
  have xb := HF1.out.keep HX.out e1
  have rb := HF1.out.keep HR.out e2
  have xb : Blk V1 b6 30 #[.int .i64 fi, .int .u64 0, .int .u64 0, .int .i64 0, .slice none 0 0] := xb
  have rb : Blk V1 b4 30 #[.int .i64 0, .int .u64 0, .int .u64 0, .int .i64 0, .slice none 0 0] := rb
  have HXB := Lib.hid xb
  have HRB := Lib.hid rb
  have HBV : Hid (Below w.heap.size w V1) := Lib.hid (by obtain ⟨_, _, _, _, _, _, h⟩ := HNI1.out; exact h)
  clear xb rb
  have u0 : V1.cell? ⟨b6, 1, none⟩ = some (.int .u64 0) := (HXB.out).cell 1
  have v0 : V1.frozen? ⟨b6, 1, none⟩ = false := (HXB.out).frozen 1
  have u1 : (V1.setCell ⟨b6, 1, none⟩ (.int .u64 (z0 : Nat))).cell? ⟨b6, 2, none⟩ = some (.int .u64 0) := ((HXB.out.set_ 1 (.int .u64 (z0 : Nat)))).cell 2
  have v1 : (V1.setCell ⟨b6, 1, none⟩ (.int .u64 (z0 : Nat))).frozen? ⟨b6, 2, none⟩ = false := ((HXB.out.set_ 1 (.int .u64 (z0 : Nat)))).frozen 2
  go_upto_region 19 with fail
  obtain ⟨W9, hW9⟩ : ∃ U, U = ((V1.setCell ⟨b6, 1, none⟩ (.int .u64 (z0 : Nat))).setCell ⟨b6, 2, none⟩ (.int .u64 (z1 : Nat))) := ⟨_, rfl⟩
  rw [← hW9]
  have xe : Blk W9 b6 30 #[.int .i64 fi, .int .u64 (z0 : Nat), .int .u64 (z1 : Nat), .int .i64 0, .slice none 0 0] := by rw [hW9]; exact ((HXB.out.set_ 1 (.int .u64 (z0 : Nat))).set_ 2 (.int .u64 (z1 : Nat)))
  have re : Blk W9 b4 30 #[.int .i64 0, .int .u64 0, .int .u64 0, .int .i64 0, .slice none 0 0] := by rw [hW9]; exact ((HRB.out.far (p := ⟨b6, 1, none⟩) e3 (.int .u64 (z0 : Nat))).far (p := ⟨b6, 2, none⟩) e3 (.int .u64 (z1 : Nat)))
  have bl : Below w.heap.size w W9 := by rw [hW9]; exact ((HBV.out.setCell e4 (.int .u64 (z0 : Nat))).setCell e4 (.int .u64 (z1 : Nat)))
  have y0 : W9.cell? ⟨b6, 0, none⟩ = some (.int .i64 fi) := xe.cell 0
  have y1 : W9.cell? ⟨b6, 1, none⟩ = some (.int .u64 (z0 : Nat)) := xe.cell 1
  have y2 : W9.cell? ⟨b6, 2, none⟩ = some (.int .u64 (z1 : Nat)) := xe.cell 2
  have y3 : W9.cell? ⟨b6, 3, none⟩ = some (.int .i64 0) := xe.cell 3
  have y4 : W9.cell? ⟨b6, 4, none⟩ = some (.slice none 0 0) := xe.cell 4
  have HRE := Lib.hid re
  have HBL := Lib.hid bl
  clear xe re bl hW9
  go_wp2_with (refine wpList_store30 rfl (.tmp 4) (.tmp 66) rfl b4 _ _ _ _ _ _ _ _ rfl rfl HRE.out (Lib.hid rfl) ?_)
  refine bodyPost_ret (v := .agg #[.int .i64 fi, .int .u64 (z0 : Nat), .int .u64 (z1 : Nat), .int .i64 0, .slice none 0 0]) (results_cell_row results49 _ _ b4 30 _ (0, 0) _ rfl (setRow_heap _ b4 _ _ 30 (0, 0) HRE.out) Tryz.underlying30 rfl (by kernel_rfl)) rfl ?_
  exact ⟨none, 0, 0, by first | rfl | skip, ⟨rfl, Nat.le_refl _, by unfold maxLen; omega, fun h => by omega⟩, below_setRow HBL.out e5 _, (fun p h => by cases h), (fun p h => by cases h)⟩
set_option maxHeartbeats 4000000 in
set_option maxRecDepth 100000 in
theorem guess_10 (fi  : Int) (nm : ByteArray) (At Ag : Option Addr) (nt ct ng cg : Nat) (hnt : nt ≤ ct) (hct : ct ≤ 9223372036854775807) (hng : ng ≤ cg) (hcg : cg ≤ 9223372036854775807) (A : Option Addr) (n c : Nat) (l : List (List UInt8)) (oz : List UInt8 → Option Nat) (w : World) (hl : Ss w A n c l)
    (HP : ∀ k, k < n → ∀ U, Below w.heap.size w U → Calls Tryz.prog 83 #[.int .i64 64, .string (bs (l.getD k []))] U (PaP (oz (l.getD k [])) U))  :
    Calls Tryz.prog 49 #[.agg #[.int .i64 fi, .string nm, .int .i64 10, .slice At nt ct, .slice Ag ng cg], .slice A n c] w (GuP ⟨fi, ((nvl oz l 0 : Nat) : Int), ((nvl oz l 1 : Nat) : Int), 0, []⟩ w) := by
  obtain ⟨hln, hnc, hcm, hcl⟩ := hl
  unfold maxLen at hcm
  obtain ⟨g, o, hA, hg, hcc⟩ : ∃ g o, (0 < n → A = some ⟨g, o, none⟩) ∧ (0 < n → g < w.heap.size) ∧ ∀ i, i < n → w.cell? ⟨g, o + i, none⟩ = some (Sv (l.getD i [])) := by
    rcases Nat.eq_zero_or_pos n with h0 | h0
    · exact ⟨0, 0, fun h => by omega, fun h => by omega, fun i hi => by omega⟩
    · obtain ⟨g, o, e, h1, h2⟩ := hcl h0
      exact ⟨g, o, fun _ => e, fun _ => h1, h2⟩
  obtain ⟨W6, hW6⟩ : ∃ V, V = (((w.alloc (.cells #[.int .i64 fi, .string nm, .int .i64 10, .slice At nt ct, .slice Ag ng cg] 61)).alloc (.cells #[.slice A n c] 73)).alloc (.cells #[.int .i64 0, .int .u64 0, .int .u64 0, .int .i64 0, .slice none 0 0] 30)).alloc (.cells #[.int .i64 fi, .int .u64 0, .int .u64 0, .int .i64 0, .slice none 0 0] 30) := ⟨_, rfl⟩
  have hb6 : Below w.heap.size w W6 := by rw [hW6]; exact ((((Below.refl w.heap.size w).alloc (Nat.le_refl _) _).alloc (by simp) _).alloc (by simp; omega) _).alloc (by simp; omega) _
  obtain ⟨g3, g2, g1, g0⟩ := heap4 w (.cells #[.int .i64 fi, .string nm, .int .i64 10, .slice At nt ct, .slice Ag ng cg] 61) (.cells #[.slice A n c] 73) (.cells #[.int .i64 0, .int .u64 0, .int .u64 0, .int .i64 0, .slice none 0 0] 30) (.cells #[.int .i64 fi, .int .u64 0, .int .u64 0, .int .i64 0, .slice none 0 0] 30)
  rw [← hW6] at g3 g2 g1 g0
  obtain ⟨bw, hbw⟩ : ∃ x, x = w.heap.size + 1 := ⟨_, rfl⟩
  obtain ⟨b4, hb4⟩ : ∃ x, x = w.heap.size + 1 + 1 := ⟨_, rfl⟩
  obtain ⟨b6, hb66⟩ : ∃ x, x = w.heap.size + 1 + 1 + 1 := ⟨_, rfl⟩
  rw [← hb66] at g3
  rw [← hb4] at g2
  rw [← hbw] at g1
  have e1 : ¬ b6 = bw := by omega
  have e2 : ¬ b4 = bw := by omega
  have e3 : ¬ b4 = b6 := by omega
  have e4 : w.heap.size ≤ b6 := by omega
  have e5 : w.heap.size ≤ b4 := by omega
  have HBW := Lib.hid hbw
  have HB4 := Lib.hid hb4
  have HBB6 := Lib.hid hb66
  have HNI : Hid (NI w W6 bw n 0 g o) := Lib.hid ⟨A, c, g1, by omega, hcm, fun h => by rw [hA (by omega)]; rfl, hb6⟩
  have HNu := Lib.hid (fun k V (h : NI w V bw n k g o) => num_any 64 w V bw n k g o l oz hln hg (by omega) hcc (HP k) h)
  have HX : Hid (Blk W6 b6 30 #[.int .i64 fi, .int .u64 0, .int .u64 0, .int .i64 0, .slice none 0 0]) := Lib.hid g3
  have HR : Hid (Blk W6 b4 30 #[.int .i64 0, .int .u64 0, .int .u64 0, .int .i64 0, .slice none 0 0]) := Lib.hid g2
  have HW6 := Lib.hid hW6
  have HB6 := Lib.hid hb6
  have c2 : W6.cell? ⟨w.heap.size, 2, none⟩ = some (.int .i64 10) := by
    have : Blk W6 w.heap.size 61 #[.int .i64 fi, .string nm, .int .i64 10, .slice At nt ct, .slice Ag ng cg] := g0
    exact this.cell 2
  clear hbw hb4 hb66 hW6 hb6 g3 g2 g1 g0 HP hcc hcl hA hg hln
  obtain ⟨z0, hz0⟩ : ∃ z, z = nvl oz l 0 := ⟨_, rfl⟩
  obtain ⟨z1, hz1⟩ : ∃ z, z = nvl oz l 1 := ⟨_, rfl⟩
  rw [← hz0]
  rw [← hz1]
  have HZ0 := Lib.hid hz0
  clear hz0
  have HZ1 := Lib.hid hz1
  clear hz1
  go_enter Tryz.func49, Tryz.ntmps49
  go_upto_region 3 with fail
  rw [← HBB6.out, ← HB4.out, ← HBW.out]
  rw [← HW6.out]
  go_wp2_with fail
  refine (HNu.out 0 _ HNI.out).mono ?_
  rintro e V0 ⟨rfl, ni0, fr0⟩
  rw [← HZ0.out]
  have HNI0 := Lib.hid ni0
  have HFR0 := Lib.hid fr0
  clear ni0 fr0
  have HF0 := HFR0
  go_wp2_with fail
  refine (HNu.out 1 _ HNI0.out).mono ?_
  rintro e V1 ⟨rfl, ni1, fr1⟩
  rw [← HZ1.out]
  have HNI1 := Lib.hid ni1
  have HFR1 := Lib.hid fr1
  clear ni1 fr1
  have HF1 := Lib.hid (HF0.out.trans HFR1.out)
  have xb := HF1.out.keep HX.out e1
  have rb := HF1.out.keep HR.out e2
  have xb : Blk V1 b6 30 #[.int .i64 fi, .int .u64 0, .int .u64 0, .int .i64 0, .slice none 0 0] := xb
  have rb : Blk V1 b4 30 #[.int .i64 0, .int .u64 0, .int .u64 0, .int .i64 0, .slice none 0 0] := rb
  have HXB := Lib.hid xb
  have HRB := Lib.hid rb
  have HBV : Hid (Below w.heap.size w V1) := Lib.hid (by obtain ⟨_, _, _, _, _, _, h⟩ := HNI1.out; exact h)
  clear xb rb
  have u0 : V1.cell? ⟨b6, 1, none⟩ = some (.int .u64 0) := (HXB.out).cell 1
  have v0 : V1.frozen? ⟨b6, 1, none⟩ = false := (HXB.out).frozen 1
  have u1 : (V1.setCell ⟨b6, 1, none⟩ (.int .u64 (z0 : Nat))).cell? ⟨b6, 2, none⟩ = some (.int .u64 0) := ((HXB.out.set_ 1 (.int .u64 (z0 : Nat)))).cell 2
  have v1 : (V1.setCell ⟨b6, 1, none⟩ (.int .u64 (z0 : Nat))).frozen? ⟨b6, 2, none⟩ = false := ((HXB.out.set_ 1 (.int .u64 (z0 : Nat)))).frozen 2
  go_upto_region 19 with fail
  obtain ⟨W9, hW9⟩ : ∃ U, U = ((V1.setCell ⟨b6, 1, none⟩ (.int .u64 (z0 : Nat))).setCell ⟨b6, 2, none⟩ (.int .u64 (z1 : Nat))) := ⟨_, rfl⟩
  rw [← hW9]
  have xe : Blk W9 b6 30 #[.int .i64 fi, .int .u64 (z0 : Nat), .int .u64 (z1 : Nat), .int .i64 0, .slice none 0 0] := by rw [hW9]; exact ((HXB.out.set_ 1 (.int .u64 (z0 : Nat))).set_ 2 (.int .u64 (z1 : Nat)))
  have re : Blk W9 b4 30 #[.int .i64 0, .int .u64 0, .int .u64 0, .int .i64 0, .slice none 0 0] := by rw [hW9]; exact ((HRB.out.far (p := ⟨b6, 1, none⟩) e3 (.int .u64 (z0 : Nat))).far (p := ⟨b6, 2, none⟩) e3 (.int .u64 (z1 : Nat)))
  have bl : Below w.heap.size w W9 := by rw [hW9]; exact ((HBV.out.setCell e4 (.int .u64 (z0 : Nat))).setCell e4 (.int .u64 (z1 : Nat)))
  have y0 : W9.cell? ⟨b6, 0, none⟩ = some (.int .i64 fi) := xe.cell 0
  have y1 : W9.cell? ⟨b6, 1, none⟩ = some (.int .u64 (z0 : Nat)) := xe.cell 1
  have y2 : W9.cell? ⟨b6, 2, none⟩ = some (.int .u64 (z1 : Nat)) := xe.cell 2
  have y3 : W9.cell? ⟨b6, 3, none⟩ = some (.int .i64 0) := xe.cell 3
  have y4 : W9.cell? ⟨b6, 4, none⟩ = some (.slice none 0 0) := xe.cell 4
  have HRE := Lib.hid re
  have HBL := Lib.hid bl
  clear xe re bl hW9
  go_wp2_with (refine wpList_store30 rfl (.tmp 4) (.tmp 66) rfl b4 _ _ _ _ _ _ _ _ rfl rfl HRE.out (Lib.hid rfl) ?_)
  refine bodyPost_ret (v := .agg #[.int .i64 fi, .int .u64 (z0 : Nat), .int .u64 (z1 : Nat), .int .i64 0, .slice none 0 0]) (results_cell_row results49 _ _ b4 30 _ (0, 0) _ rfl (setRow_heap _ b4 _ _ 30 (0, 0) HRE.out) Tryz.underlying30 rfl (by kernel_rfl)) rfl ?_
  exact ⟨none, 0, 0, by first | rfl | skip, ⟨rfl, Nat.le_refl _, by unfold maxLen; omega, fun h => by omega⟩, below_setRow HBL.out e5 _, (fun p h => by cases h), (fun p h => by cases h)⟩
set_option maxHeartbeats 4000000 in
set_option maxRecDepth 100000 in
theorem guess_8 (fi  : Int) (nm : ByteArray) (At Ag : Option Addr) (nt ct ng cg : Nat) (hnt : nt ≤ ct) (hct : ct ≤ 9223372036854775807) (hng : ng ≤ cg) (hcg : cg ≤ 9223372036854775807) (A : Option Addr) (n c : Nat) (l : List (List UInt8)) (oz : List UInt8 → Option Nat) (w : World) (hl : Ss w A n c l)
    (HP : ∀ k, k < n → ∀ U, Below w.heap.size w U → Calls Tryz.prog 83 #[.int .i64 64, .string (bs (l.getD k []))] U (PaP (oz (l.getD k [])) U))  :
    Calls Tryz.prog 49 #[.agg #[.int .i64 fi, .string nm, .int .i64 8, .slice At nt ct, .slice Ag ng cg], .slice A n c] w (GuP ⟨fi, ((nvl oz l 0 : Nat) : Int), ((nvl oz l 1 : Nat) : Int), (wrap64 ((nvl oz l 2 : Nat) : Int)), []⟩ w) := by
  obtain ⟨hln, hnc, hcm, hcl⟩ := hl
  unfold maxLen at hcm
  obtain ⟨g, o, hA, hg, hcc⟩ : ∃ g o, (0 < n → A = some ⟨g, o, none⟩) ∧ (0 < n → g < w.heap.size) ∧ ∀ i, i < n → w.cell? ⟨g, o + i, none⟩ = some (Sv (l.getD i [])) := by
    rcases Nat.eq_zero_or_pos n with h0 | h0
    · exact ⟨0, 0, fun h => by omega, fun h => by omega, fun i hi => by omega⟩
    · obtain ⟨g, o, e, h1, h2⟩ := hcl h0
      exact ⟨g, o, fun _ => e, fun _ => h1, h2⟩
  obtain ⟨W6, hW6⟩ : ∃ V, V = (((w.alloc (.cells #[.int .i64 fi, .string nm, .int .i64 8, .slice At nt ct, .slice Ag ng cg] 61)).alloc (.cells #[.slice A n c] 73)).alloc (.cells #[.int .i64 0, .int .u64 0, .int .u64 0, .int .i64 0, .slice none 0 0] 30)).alloc (.cells #[.int .i64 fi, .int .u64 0, .int .u64 0, .int .i64 0, .slice none 0 0] 30) := ⟨_, rfl⟩
  have hb6 : Below w.heap.size w W6 := by rw [hW6]; exact ((((Below.refl w.heap.size w).alloc (Nat.le_refl _) _).alloc (by simp) _).alloc (by simp; omega) _).alloc (by simp; omega) _
  obtain ⟨g3, g2, g1, g0⟩ := heap4 w (.cells #[.int .i64 fi, .string nm, .int .i64 8, .slice At nt ct, .slice Ag ng cg] 61) (.cells #[.slice A n c] 73) (.cells #[.int .i64 0, .int .u64 0, .int .u64 0, .int .i64 0, .slice none 0 0] 30) (.cells #[.int .i64 fi, .int .u64 0, .int .u64 0, .int .i64 0, .slice none 0 0] 30)
  rw [← hW6] at g3 g2 g1 g0
  obtain ⟨bw, hbw⟩ : ∃ x, x = w.heap.size + 1 := ⟨_, rfl⟩
  obtain ⟨b4, hb4⟩ : ∃ x, x = w.heap.size + 1 + 1 := ⟨_, rfl⟩
  obtain ⟨b6, hb66⟩ : ∃ x, x = w.heap.size + 1 + 1 + 1 := ⟨_, rfl⟩
  rw [← hb66] at g3
  rw [← hb4] at g2
  rw [← hbw] at g1
  have e1 : ¬ b6 = bw := by omega
  have e2 : ¬ b4 = bw := by omega
  have e3 : ¬ b4 = b6 := by omega
  have e4 : w.heap.size ≤ b6 := by omega
  have e5 : w.heap.size ≤ b4 := by omega
  have HBW := Lib.hid hbw
  have HB4 := Lib.hid hb4
  have HBB6 := Lib.hid hb66
  have HNI : Hid (NI w W6 bw n 0 g o) := Lib.hid ⟨A, c, g1, by omega, hcm, fun h => by rw [hA (by omega)]; rfl, hb6⟩
  have HNu := Lib.hid (fun k V (h : NI w V bw n k g o) => num_any 64 w V bw n k g o l oz hln hg (by omega) hcc (HP k) h)
  have HX : Hid (Blk W6 b6 30 #[.int .i64 fi, .int .u64 0, .int .u64 0, .int .i64 0, .slice none 0 0]) := Lib.hid g3
  have HR : Hid (Blk W6 b4 30 #[.int .i64 0, .int .u64 0, .int .u64 0, .int .i64 0, .slice none 0 0]) := Lib.hid g2
  have HW6 := Lib.hid hW6
  have HB6 := Lib.hid hb6
  have c2 : W6.cell? ⟨w.heap.size, 2, none⟩ = some (.int .i64 8) := by
    have : Blk W6 w.heap.size 61 #[.int .i64 fi, .string nm, .int .i64 8, .slice At nt ct, .slice Ag ng cg] := g0
    exact this.cell 2
  clear hbw hb4 hb66 hW6 hb6 g3 g2 g1 g0 HP hcc hcl hA hg hln
  obtain ⟨z0, hz0⟩ : ∃ z, z = nvl oz l 0 := ⟨_, rfl⟩
  obtain ⟨z1, hz1⟩ : ∃ z, z = nvl oz l 1 := ⟨_, rfl⟩
  obtain ⟨z2, hz2⟩ : ∃ z, z = nvl oz l 2 := ⟨_, rfl⟩
  rw [← hz0]
  rw [← hz1]
  rw [← hz2]
  have HZ0 := Lib.hid hz0
  clear hz0
  have HZ1 := Lib.hid hz1
  clear hz1
  have HZ2 := Lib.hid hz2
  clear hz2
  go_enter Tryz.func49, Tryz.ntmps49
  go_upto_region 3 with fail
  rw [← HBB6.out, ← HB4.out, ← HBW.out]
  rw [← HW6.out]
  go_wp2_with fail
  refine (HNu.out 0 _ HNI.out).mono ?_
  rintro e V0 ⟨rfl, ni0, fr0⟩
  rw [← HZ0.out]
  have HNI0 := Lib.hid ni0
  have HFR0 := Lib.hid fr0
  clear ni0 fr0
  have HF0 := HFR0
  go_wp2_with fail
  refine (HNu.out 1 _ HNI0.out).mono ?_
  rintro e V1 ⟨rfl, ni1, fr1⟩
  rw [← HZ1.out]
  have HNI1 := Lib.hid ni1
  have HFR1 := Lib.hid fr1
  clear ni1 fr1
  have HF1 := Lib.hid (HF0.out.trans HFR1.out)
  go_wp2_with fail
  refine (HNu.out 2 _ HNI1.out).mono ?_
  rintro e V2 ⟨rfl, ni2, fr2⟩
  rw [← HZ2.out]
  have HNI2 := Lib.hid ni2
  have HFR2 := Lib.hid fr2
  clear ni2 fr2
  have HF2 := Lib.hid (HF1.out.trans HFR2.out)
  have xb := HF2.out.keep HX.out e1
  have rb := HF2.out.keep HR.out e2
  have xb : Blk V2 b6 30 #[.int .i64 fi, .int .u64 0, .int .u64 0, .int .i64 0, .slice none 0 0] := xb
  have rb : Blk V2 b4 30 #[.int .i64 0, .int .u64 0, .int .u64 0, .int .i64 0, .slice none 0 0] := rb
  have HXB := Lib.hid xb
  have HRB := Lib.hid rb
  have HBV : Hid (Below w.heap.size w V2) := Lib.hid (by obtain ⟨_, _, _, _, _, _, h⟩ := HNI2.out; exact h)
  clear xb rb
  have u0 : V2.cell? ⟨b6, 1, none⟩ = some (.int .u64 0) := (HXB.out).cell 1
  have v0 : V2.frozen? ⟨b6, 1, none⟩ = false := (HXB.out).frozen 1
  have u1 : (V2.setCell ⟨b6, 1, none⟩ (.int .u64 (z0 : Nat))).cell? ⟨b6, 2, none⟩ = some (.int .u64 0) := ((HXB.out.set_ 1 (.int .u64 (z0 : Nat)))).cell 2
  have v1 : (V2.setCell ⟨b6, 1, none⟩ (.int .u64 (z0 : Nat))).frozen? ⟨b6, 2, none⟩ = false := ((HXB.out.set_ 1 (.int .u64 (z0 : Nat)))).frozen 2
  have u2 : ((V2.setCell ⟨b6, 1, none⟩ (.int .u64 (z0 : Nat))).setCell ⟨b6, 2, none⟩ (.int .u64 (z1 : Nat))).cell? ⟨b6, 3, none⟩ = some (.int .i64 0) := (((HXB.out.set_ 1 (.int .u64 (z0 : Nat))).set_ 2 (.int .u64 (z1 : Nat)))).cell 3
  have v2 : ((V2.setCell ⟨b6, 1, none⟩ (.int .u64 (z0 : Nat))).setCell ⟨b6, 2, none⟩ (.int .u64 (z1 : Nat))).frozen? ⟨b6, 3, none⟩ = false := (((HXB.out.set_ 1 (.int .u64 (z0 : Nat))).set_ 2 (.int .u64 (z1 : Nat)))).frozen 3
  go_upto_region 19 with fail
  obtain ⟨W9, hW9⟩ : ∃ U, U = (((V2.setCell ⟨b6, 1, none⟩ (.int .u64 (z0 : Nat))).setCell ⟨b6, 2, none⟩ (.int .u64 (z1 : Nat))).setCell ⟨b6, 3, none⟩ (.int .i64 (wrap64 (z2 : Nat)))) := ⟨_, rfl⟩
  rw [← hW9]
  have xe : Blk W9 b6 30 #[.int .i64 fi, .int .u64 (z0 : Nat), .int .u64 (z1 : Nat), .int .i64 (wrap64 (z2 : Nat)), .slice none 0 0] := by rw [hW9]; exact (((HXB.out.set_ 1 (.int .u64 (z0 : Nat))).set_ 2 (.int .u64 (z1 : Nat))).set_ 3 (.int .i64 (wrap64 (z2 : Nat))))
  have re : Blk W9 b4 30 #[.int .i64 0, .int .u64 0, .int .u64 0, .int .i64 0, .slice none 0 0] := by rw [hW9]; exact (((HRB.out.far (p := ⟨b6, 1, none⟩) e3 (.int .u64 (z0 : Nat))).far (p := ⟨b6, 2, none⟩) e3 (.int .u64 (z1 : Nat))).far (p := ⟨b6, 3, none⟩) e3 (.int .i64 (wrap64 (z2 : Nat))))
  have bl : Below w.heap.size w W9 := by rw [hW9]; exact (((HBV.out.setCell e4 (.int .u64 (z0 : Nat))).setCell e4 (.int .u64 (z1 : Nat))).setCell e4 (.int .i64 (wrap64 (z2 : Nat))))
  have y0 : W9.cell? ⟨b6, 0, none⟩ = some (.int .i64 fi) := xe.cell 0
  have y1 : W9.cell? ⟨b6, 1, none⟩ = some (.int .u64 (z0 : Nat)) := xe.cell 1
  have y2 : W9.cell? ⟨b6, 2, none⟩ = some (.int .u64 (z1 : Nat)) := xe.cell 2
  have y3 : W9.cell? ⟨b6, 3, none⟩ = some (.int .i64 (wrap64 (z2 : Nat))) := xe.cell 3
  have y4 : W9.cell? ⟨b6, 4, none⟩ = some (.slice none 0 0) := xe.cell 4
  have HRE := Lib.hid re
  have HBL := Lib.hid bl
  clear xe re bl hW9
  go_wp2_with (refine wpList_store30 rfl (.tmp 4) (.tmp 66) rfl b4 _ _ _ _ _ _ _ _ rfl rfl HRE.out (Lib.hid rfl) ?_)
  refine bodyPost_ret (v := .agg #[.int .i64 fi, .int .u64 (z0 : Nat), .int .u64 (z1 : Nat), .int .i64 (wrap64 (z2 : Nat)), .slice none 0 0]) (results_cell_row results49 _ _ b4 30 _ (0, 0) _ rfl (setRow_heap _ b4 _ _ 30 (0, 0) HRE.out) Tryz.underlying30 rfl (by kernel_rfl)) rfl ?_
  exact ⟨none, 0, 0, by first | rfl | skip, ⟨rfl, Nat.le_refl _, by unfold maxLen; omega, fun h => by omega⟩, below_setRow HBL.out e5 _, (fun p h => by cases h), (fun p h => by cases h)⟩
set_option maxHeartbeats 4000000 in
set_option maxRecDepth 100000 in
theorem guess_x (fi fo : Int) (nm : ByteArray) (At Ag : Option Addr) (nt ct ng cg : Nat) (hnt : nt ≤ ct) (hct : ct ≤ 9223372036854775807) (hng : ng ≤ cg) (hcg : cg ≤ 9223372036854775807) (A : Option Addr) (n c : Nat) (l : List (List UInt8)) (oz : List UInt8 → Option Nat) (w : World) (hl : Ss w A n c l)
    (HP : ∀ k, k < n → ∀ U, Below w.heap.size w U → Calls Tryz.prog 83 #[.int .i64 64, .string (bs (l.getD k []))] U (PaP (oz (l.getD k [])) U)) (h0 : fo ≠ 0) (h1 : fo ≠ 1) (h3 : fo ≠ 3) (h5 : fo ≠ 5) (h10 : fo ≠ 10) (h8 : fo ≠ 8) (h11 : fo ≠ 11) :
    Calls Tryz.prog 49 #[.agg #[.int .i64 fi, .string nm, .int .i64 fo, .slice At nt ct, .slice Ag ng cg], .slice A n c] w (GuP ⟨fi, ((nvl oz l 0 : Nat) : Int), 0, 0, []⟩ w) := by
  obtain ⟨hln, hnc, hcm, hcl⟩ := hl
  unfold maxLen at hcm
  obtain ⟨g, o, hA, hg, hcc⟩ : ∃ g o, (0 < n → A = some ⟨g, o, none⟩) ∧ (0 < n → g < w.heap.size) ∧ ∀ i, i < n → w.cell? ⟨g, o + i, none⟩ = some (Sv (l.getD i [])) := by
    rcases Nat.eq_zero_or_pos n with h0 | h0
    · exact ⟨0, 0, fun h => by omega, fun h => by omega, fun i hi => by omega⟩
    · obtain ⟨g, o, e, h1, h2⟩ := hcl h0
      exact ⟨g, o, fun _ => e, fun _ => h1, h2⟩
  obtain ⟨W6, hW6⟩ : ∃ V, V = (((w.alloc (.cells #[.int .i64 fi, .string nm, .int .i64 fo, .slice At nt ct, .slice Ag ng cg] 61)).alloc (.cells #[.slice A n c] 73)).alloc (.cells #[.int .i64 0, .int .u64 0, .int .u64 0, .int .i64 0, .slice none 0 0] 30)).alloc (.cells #[.int .i64 fi, .int .u64 0, .int .u64 0, .int .i64 0, .slice none 0 0] 30) := ⟨_, rfl⟩
  have hb6 : Below w.heap.size w W6 := by rw [hW6]; exact ((((Below.refl w.heap.size w).alloc (Nat.le_refl _) _).alloc (by simp) _).alloc (by simp; omega) _).alloc (by simp; omega) _
  obtain ⟨g3, g2, g1, g0⟩ := heap4 w (.cells #[.int .i64 fi, .string nm, .int .i64 fo, .slice At nt ct, .slice Ag ng cg] 61) (.cells #[.slice A n c] 73) (.cells #[.int .i64 0, .int .u64 0, .int .u64 0, .int .i64 0, .slice none 0 0] 30) (.cells #[.int .i64 fi, .int .u64 0, .int .u64 0, .int .i64 0, .slice none 0 0] 30)
  rw [← hW6] at g3 g2 g1 g0
  obtain ⟨bw, hbw⟩ : ∃ x, x = w.heap.size + 1 := ⟨_, rfl⟩
  obtain ⟨b4, hb4⟩ : ∃ x, x = w.heap.size + 1 + 1 := ⟨_, rfl⟩
  obtain ⟨b6, hb66⟩ : ∃ x, x = w.heap.size + 1 + 1 + 1 := ⟨_, rfl⟩
  rw [← hb66] at g3
  rw [← hb4] at g2
  rw [← hbw] at g1
  have e1 : ¬ b6 = bw := by omega
  have e2 : ¬ b4 = bw := by omega
  have e3 : ¬ b4 = b6 := by omega
  have e4 : w.heap.size ≤ b6 := by omega
  have e5 : w.heap.size ≤ b4 := by omega
  have HBW := Lib.hid hbw
  have HB4 := Lib.hid hb4
  have HBB6 := Lib.hid hb66
  have HNI : Hid (NI w W6 bw n 0 g o) := Lib.hid ⟨A, c, g1, by omega, hcm, fun h => by rw [hA (by omega)]; rfl, hb6⟩
  have HNu := Lib.hid (fun k V (h : NI w V bw n k g o) => num_any 64 w V bw n k g o l oz hln hg (by omega) hcc (HP k) h)
  have HX : Hid (Blk W6 b6 30 #[.int .i64 fi, .int .u64 0, .int .u64 0, .int .i64 0, .slice none 0 0]) := Lib.hid g3
  have HR : Hid (Blk W6 b4 30 #[.int .i64 0, .int .u64 0, .int .u64 0, .int .i64 0, .slice none 0 0]) := Lib.hid g2
  have HW6 := Lib.hid hW6
  have HB6 := Lib.hid hb6
  have c2 : W6.cell? ⟨w.heap.size, 2, none⟩ = some (.int .i64 fo) := by
    have : Blk W6 w.heap.size 61 #[.int .i64 fi, .string nm, .int .i64 fo, .slice At nt ct, .slice Ag ng cg] := g0
    exact this.cell 2
  have f0 : (fo == 0) = false := by simpa using h0
  have f1 : (fo == 1) = false := by simpa using h1
  have f3 : (fo == 3) = false := by simpa using h3
  have f5 : (fo == 5) = false := by simpa using h5
  have f10 : (fo == 10) = false := by simpa using h10
  have f8 : (fo == 8) = false := by simpa using h8
  have f11 : (fo == 11) = false := by simpa using h11
  clear h0 h1 h3 h5 h10 h8 h11
  clear hbw hb4 hb66 hW6 hb6 g3 g2 g1 g0 HP hcc hcl hA hg hln
  obtain ⟨z0, hz0⟩ : ∃ z, z = nvl oz l 0 := ⟨_, rfl⟩
  rw [← hz0]
  have HZ0 := Lib.hid hz0
  clear hz0
  go_enter Tryz.func49, Tryz.ntmps49
  go_upto_region 3 with fail
  rw [← HBB6.out, ← HB4.out, ← HBW.out]
  rw [← HW6.out]
  go_wp2_with fail
  refine (HNu.out 0 _ HNI.out).mono ?_
  rintro e V0 ⟨rfl, ni0, fr0⟩
  rw [← HZ0.out]
  have HNI0 := Lib.hid ni0
  have HFR0 := Lib.hid fr0
  clear ni0 fr0
  have HF0 := HFR0
  have xb := HF0.out.keep HX.out e1
  have rb := HF0.out.keep HR.out e2
  have xb : Blk V0 b6 30 #[.int .i64 fi, .int .u64 0, .int .u64 0, .int .i64 0, .slice none 0 0] := xb
  have rb : Blk V0 b4 30 #[.int .i64 0, .int .u64 0, .int .u64 0, .int .i64 0, .slice none 0 0] := rb
  have HXB := Lib.hid xb
  have HRB := Lib.hid rb
  have HBV : Hid (Below w.heap.size w V0) := Lib.hid (by obtain ⟨_, _, _, _, _, _, h⟩ := HNI0.out; exact h)
  clear xb rb
  have u0 : V0.cell? ⟨b6, 1, none⟩ = some (.int .u64 0) := (HXB.out).cell 1
  have v0 : V0.frozen? ⟨b6, 1, none⟩ = false := (HXB.out).frozen 1
  go_upto_region 19 with fail
  obtain ⟨W9, hW9⟩ : ∃ U, U = (V0.setCell ⟨b6, 1, none⟩ (.int .u64 (z0 : Nat))) := ⟨_, rfl⟩
  rw [← hW9]
  have xe : Blk W9 b6 30 #[.int .i64 fi, .int .u64 (z0 : Nat), .int .u64 0, .int .i64 0, .slice none 0 0] := by rw [hW9]; exact (HXB.out.set_ 1 (.int .u64 (z0 : Nat)))
  have re : Blk W9 b4 30 #[.int .i64 0, .int .u64 0, .int .u64 0, .int .i64 0, .slice none 0 0] := by rw [hW9]; exact (HRB.out.far (p := ⟨b6, 1, none⟩) e3 (.int .u64 (z0 : Nat)))
  have bl : Below w.heap.size w W9 := by rw [hW9]; exact (HBV.out.setCell e4 (.int .u64 (z0 : Nat)))
  have y0 : W9.cell? ⟨b6, 0, none⟩ = some (.int .i64 fi) := xe.cell 0
  have y1 : W9.cell? ⟨b6, 1, none⟩ = some (.int .u64 (z0 : Nat)) := xe.cell 1
  have y2 : W9.cell? ⟨b6, 2, none⟩ = some (.int .u64 0) := xe.cell 2
  have y3 : W9.cell? ⟨b6, 3, none⟩ = some (.int .i64 0) := xe.cell 3
  have y4 : W9.cell? ⟨b6, 4, none⟩ = some (.slice none 0 0) := xe.cell 4
  have HRE := Lib.hid re
  have HBL := Lib.hid bl
  clear xe re bl hW9
  go_wp2_with (refine wpList_store30 rfl (.tmp 4) (.tmp 66) rfl b4 _ _ _ _ _ _ _ _ rfl rfl HRE.out (Lib.hid rfl) ?_)
  refine bodyPost_ret (v := .agg #[.int .i64 fi, .int .u64 (z0 : Nat), .int .u64 0, .int .i64 0, .slice none 0 0]) (results_cell_row results49 _ _ b4 30 _ (0, 0) _ rfl (setRow_heap _ b4 _ _ 30 (0, 0) HRE.out) Tryz.underlying30 rfl (by kernel_rfl)) rfl ?_
  exact ⟨none, 0, 0, by first | rfl | skip, ⟨rfl, Nat.le_refl _, by unfold maxLen; omega, fun h => by omega⟩, below_setRow HBL.out e5 _, (fun p h => by cases h), (fun p h => by cases h)⟩
end Go.Proofs.YtggfaalodojjkaaGreatDoor
/-
  A text's words: strings.Split of what was joined.
-/
namespace Go.Proofs.YtggfaalodojjkaaGreatDoor
open Go.RowKit
set_option linter.unusedVariables false
set_option linter.unusedSimpArgs false
theorem index_sp : ∀ (x t : List UInt8), (32 : UInt8) ∉ x → Lib.index (x ++ 32 :: t) [32] = x.length ∧ Lib.index x [32] = -1
  | [], t, _ => by
    rw [Lib.index_one, Lib.index_one]
    exact ⟨by simp [Lib.indexByte], rfl⟩
  | c :: x, t, h => by
    have hc : ¬ c = 32 := fun e => h (by rw [e]; exact List.mem_cons_self)
    obtain ⟨h1, h2⟩ := index_sp x t (fun e => h (List.mem_cons_of_mem _ e))
    rw [Lib.index_one] at h1 h2 ⊢
    rw [Lib.index_one]
    have hb : (c == 32) = false := by simpa using hc
    constructor
    · rw [List.cons_append, Lib.indexByte, hb, h1]
      simp
    · rw [Lib.indexByte, hb, h2]
      rfl
theorem join_two (x y : List UInt8) (r : List (List UInt8)) : Lib.join (x :: y :: r) [32] = x ++ 32 :: Lib.join (y :: r) [32] := by
  rw [Lib.join_cons, Lib.join_cons]
  simp [Lib.joinTail]
theorem split_join : ∀ (r : List (List UInt8)) (x : List UInt8), (∀ y ∈ x :: r, (32 : UInt8) ∉ y) → Lib.count (Lib.join (x :: r) [32]) [32] = r.length ∧ Lib.splitK [32] 0 r.length (Lib.join (x :: r) [32]) = x :: r
  | [], x, h => by
    have hx := (index_sp x [] (h x List.mem_cons_self)).2
    rw [Lib.join_one]
    exact ⟨Lib.count_miss hx, rfl⟩
  | y :: r, x, h => by
    obtain ⟨h1, h2⟩ := split_join r y (fun z hz => h z (List.mem_cons_of_mem _ hz))
    have hx := (index_sp x (Lib.join (y :: r) [32]) (h x List.mem_cons_self)).1
    rw [← join_two] at hx
    have hd : (Lib.join (x :: y :: r) [32]).drop (x.length + 1) = Lib.join (y :: r) [32] := by
      rw [join_two, List.drop_append]; simp
    constructor
    · rw [Lib.count_hit (by simp) hx]
      show 1 + Lib.count ((Lib.join (x :: y :: r) [32]).drop (x.length + 1)) [32] = r.length + 1
      rw [hd, h1]; omega
    · show Lib.splitK [32] 0 (r.length + 1) _ = _
      have hne : ((x.length : Int) == -1) = false := by simp
      rw [Lib.splitK, hx, hne]
      show (Lib.join (x :: y :: r) [32]).take ((x.length : Int).toNat + 0) :: Lib.splitK [32] 0 r.length ((Lib.join (x :: y :: r) [32]).drop ((x.length : Int).toNat + 1)) = _
      rw [Int.toNat_natCast, hd, h2, join_two, Nat.add_zero, List.take_left']
      rfl
theorem Split_ok (x : List UInt8) (r : List (List UInt8)) (h : ∀ y ∈ x :: r, (32 : UInt8) ∉ y) (hl : (Lib.join (x :: r) [32]).length ≤ 1000000) (w : World) (hL : Lw w) (hr : r.length ≤ 1000000) :
    Calls Tryz.prog 47 #[.string (bs (Lib.join (x :: r) [32])), .string ⟨#[32]⟩] w fun e w' => e = .returned (.slice (some ⟨w.heap.size, 0, none⟩) (r.length + 1) (r.length + 1)) ∧ w' = w.alloc (.cells ((x :: r).map Sv).toArray 9) := by
  obtain ⟨m, hm⟩ := hL.ml.2
  obtain ⟨q1, q2⟩ := split_join r x h
  have hc : Lib.countB (bs (Lib.join (x :: r) [32])) ⟨#[32]⟩ = r.length := by
    rw [← q1]; show Lib.count _ _ = _; rw [bs_dl]
  have hs : Lib.splitB ⟨#[32]⟩ 0 r.length (bs (Lib.join (x :: r) [32])) = (x :: r).map bs := by
    have := Lib.splitB_data ⟨#[32]⟩ 0 r.length (bs (Lib.join (x :: r) [32]))
    rw [bs_dl] at this
    have e : (⟨#[32]⟩ : ByteArray).data.toList = [32] := rfl
    rw [e, q2] at this
    have h2 := congrArg (List.map bs) this
    rw [List.map_map] at h2
    have e2 : (bs ∘ fun x : ByteArray => x.data.toList) = id := by funext l; simp [bs]
    rw [e2, List.map_id] at h2
    exact h2
  have := Tryz.strings_Split (bs (Lib.join (x :: r) [32])) ⟨#[32]⟩ m w (by rw [bs_size]; omega) hm (by decide)
  rw [hc, hs, List.map_map] at this
  exact this
end Go.Proofs.YtggfaalodojjkaaGreatDoor
/-
  instr: Parse, of a text that Print has made.
-/
namespace Go.Proofs.YtggfaalodojjkaaGreatDoor
open Go.RowKit
set_option linter.unusedVariables false
set_option linter.unusedSimpArgs false
theorem results25 : Tryz.f25.results = #[.cell 2 30, .tmp 3] := by kernel_rfl
theorem sl_setRow {w : World} {A : Option Addr} {n c : Nat} {l : List Int} (h : Sl w A n c l) {g : Nat} (hg : ∀ p, A = some p → ¬ p.block = g) (cs2 : Array Value) : Sl (w.setRow g cs2) A n c l := by
  obtain ⟨h1, h2, h3, h4⟩ := h
  refine ⟨h1, h2, h3, fun h0 => ?_⟩
  obtain ⟨b, o, e, hb, hc⟩ := h4 h0
  refine ⟨b, o, e, Nat.lt_of_lt_of_le hb (fr_setRow w g cs2).size, fun i hi => ?_⟩
  rw [← hc i hi]
  have := (fr_setRow w g cs2).block b hb (hg _ e)
  simp only [World.cell?, this]
theorem sl_lt {w : World} {A : Option Addr} {n c : Nat} {l : List Int} (h : Sl w A n c l) (h0 : 0 < n) : ∀ p, A = some p → p.block < w.heap.size := by
  intro p e
  obtain ⟨b, o, e2, hb, _⟩ := h.2.2.2 h0
  rw [e] at e2
  cases e2
  exact hb
set_option maxHeartbeats 4000000 in
set_option maxRecDepth 100000 in
theorem parse_walk (nl : List UInt8) (ws : List (List UInt8)) (hsp : ∀ y ∈ nl :: ws, (32 : UInt8) ∉ y) (hjl : (Lib.join (nl :: ws) [32]).length ≤ 1119) (hwl : ws.length ≤ 1000) (w : World) (hL : Lw w) (fi fo : Int) (nm : ByteArray) (nt ng : Nat) (xc xa xb xl : Int) (l : List Int)
    (HN : Hid (∀ V, Below w.heap.size w V → Calls Tryz.prog 48 #[.string (bs nl)] V fun e w' => ∃ At ct Ag cg, nt ≤ ct ∧ ct ≤ 9223372036854775807 ∧ ng ≤ cg ∧ cg ≤ 9223372036854775807 ∧ e = .returned (.tuple #[.agg #[.int .i64 fi, .string nm, .int .i64 fo, .slice At nt ct, .slice Ag ng cg], .bool true]) ∧ Below V.heap.size V w'))
    (HG : Hid (∀ At ct Ag cg, nt ≤ ct → ct ≤ 9223372036854775807 → ng ≤ cg → cg ≤ 9223372036854775807 → ∀ A V, Below w.heap.size w V → Ss V A ws.length ws.length ws → Calls Tryz.prog 49 #[.agg #[.int .i64 fi, .string nm, .int .i64 fo, .slice At nt ct, .slice Ag ng cg], .slice A ws.length ws.length] V (GuP ⟨xc, xa, xb, xl, l⟩ V)))
    (HPr : Hid (∀ A n c V, Below w.heap.size w V → Sl V A n c l → Calls Tryz.prog 14 #[.agg #[.int .i64 xc, .int .u64 xa, .int .u64 xb, .int .i64 xl, .slice A n c]] V fun e w' => e = .returned (.string (bs (Lib.join (nl :: ws) [32]))) ∧ Below V.heap.size V w')) :
    Calls Tryz.prog 25 #[.string (bs (Lib.join (nl :: ws) [32]))] w fun e w' => ∃ Al ln lc, e = .returned (.tuple #[.agg #[.int .i64 xc, .int .u64 xa, .int .u64 xb, .int .i64 xl, .slice Al ln lc], .int .i64 0]) ∧ Sl w' Al ln lc l ∧ Below w.heap.size w w' := by
  obtain ⟨W0, hW0⟩ : ∃ V, V = w.alloc (.cells #[.int .i64 0, .int .u64 0, .int .u64 0, .int .i64 0, .slice none 0 0] 30) := ⟨_, rfl⟩
  have hb0 : Below w.heap.size w W0 := by rw [hW0]; exact (Below.refl _ _).alloc (Nat.le_refl _) _
  have hZ0 : Blk W0 w.heap.size 30 #[.int .i64 0, .int .u64 0, .int .u64 0, .int .i64 0, .slice none 0 0] := by rw [hW0]; exact Blk.new w 30 _
  have HSp := Lib.hid (Split_ok nl ws hsp (by omega) W0 (hL.below hb0) (by omega))
  obtain ⟨S, hS⟩ : ∃ S, S = bs (Lib.join (nl :: ws) [32]) := ⟨_, rfl⟩
  have hsz : ¬ (1119 : Int) < (S.size : Int) := by rw [hS, bs_size]; omega
  rw [← hS] at HSp HPr ⊢
  obtain ⟨W1, hW1⟩ : ∃ V, V = W0.alloc (.cells ((nl :: ws).map Sv).toArray 9) := ⟨_, rfl⟩
  have h01 : Below W0.heap.size W0 W1 := by rw [hW1]; exact (Below.refl _ _).alloc (Nat.le_refl _) _
  have hR1 : Blk W1 W0.heap.size 9 ((nl :: ws).map Sv).toArray := by rw [hW1]; exact Blk.new W0 9 _
  rw [← hW1] at HSp
  have x0 : W1.cell? ⟨W0.heap.size, 0, none⟩ = some (.string (bs nl)) := hR1.cell 0
  have HX1 := Lib.hid (hb0.trans (h01.mono hb0.size))
  have HN1 := Lib.hid (HN.out W1 HX1.out)
  obtain ⟨gs, hgs⟩ : ∃ x, x = W0.heap.size := ⟨_, rfl⟩
  rw [← hgs] at x0 hR1 HSp
  have HSS1 : Hid (∀ V, Below W1.heap.size W1 V → Ss V (some ⟨gs, 1, none⟩) ws.length ws.length ws) := Lib.hid (fun V hV => by
    have hk := hR1.below hV hR1.lt
    refine ⟨rfl, Nat.le_refl _, by unfold maxLen; omega, fun h => ⟨gs, 1, rfl, hk.lt, fun i hi => ?_⟩⟩
    rw [hk.cell (1 + i)]
    have e : 1 + i = i + 1 := by omega
    simp [e, List.getD_eq_getElem?_getD, List.getElem?_eq_getElem hi])
  have HZ : Hid (∀ V, Below W0.heap.size W0 V → Blk V w.heap.size 30 #[.int .i64 0, .int .u64 0, .int .u64 0, .int .i64 0, .slice none 0 0]) := Lib.hid (fun V hV => hZ0.below hV hZ0.lt)
  have HW0 := Lib.hid hW0
  have H01 := Lib.hid h01
  have HB0 := Lib.hid hb0
  have hq : (S.toList == S.toList) = true := by simp
  clear hW0 hb0 hZ0 hS hW1 h01 hR1 hgs HN hsp hjl hwl hL
  go_enter Tryz.func25, Tryz.ntmps25
  go_upto_region 1 with fail
  rw [← HW0.out]

  go_upto_region 5 with (first
    | (go_at_call 47; (with_reducible refine HSp.out.mono ?_); rintro e w1 ⟨rfl, hw⟩; rw [hw]; clear hw)
    | (go_at_call 48; (with_reducible refine HN1.out.mono ?_); rintro e w2 ⟨At, ct, Ag, cg, hnt, hct, hng, hcg, rfl, hb2⟩
       have H2 := Lib.hid hb2
       clear hb2))
  obtain ⟨W5, hW5⟩ : ∃ V, V = w2.alloc (.cells #[.int .i64 fi, .string nm, .int .i64 fo, .slice At nt ct, .slice Ag ng cg] 61) := ⟨_, rfl⟩
  obtain ⟨b5, hb5⟩ : ∃ x, x = w2.heap.size := ⟨_, rfl⟩
  have h25 : Below w2.heap.size w2 W5 := by rw [hW5]; exact (Below.refl _ _).alloc (Nat.le_refl _) _
  have hI : Blk W5 b5 61 #[.int .i64 fi, .string nm, .int .i64 fo, .slice At nt ct, .slice Ag ng cg] := by rw [hW5, hb5]; exact Blk.new w2 61 _
  rw [← hb5, ← hW5]
  have H15 : Hid (Below W1.heap.size W1 W5) := Lib.hid (H2.out.trans (h25.mono H2.out.size))
  have HB5 : Hid (Below w.heap.size w W5) := Lib.hid (HX1.out.trans (H15.out.mono HX1.out.size))
  have HX5 : Hid (Below W0.heap.size W0 W5) := Lib.hid (H01.out.trans (H15.out.mono H01.out.size))
  have HG5 : Hid (w.heap.size < W5.heap.size) := Lib.hid (Nat.lt_of_lt_of_le (HZ.out _ (Below.refl _ _)).lt HX5.out.size)
  have HVD : Hid (Below W5.heap.size W5 W5.drew) := Lib.hid (below_drew (Below.refl _ _))
  have HSS : Hid (∀ V, Below W5.heap.size W5 V → Ss V (some ⟨gs, 1, none⟩) ws.length ws.length ws) := Lib.hid (fun V hV => HSS1.out V (H15.out.trans (hV.mono H15.out.size)))
  have HSS0 : Hid (ws = [] → ∀ V A, Ss V A ws.length ws.length ws) := Lib.hid (fun h V A => by subst h; exact ⟨rfl, Nat.le_refl _, Nat.zero_le _, fun h => by cases h⟩)
  have HKS : Hid (∀ V, Below W5.heap.size W5 V → V.cell? ⟨b5, 0, none⟩ = some (.int .i64 fi) ∧ V.cell? ⟨b5, 1, none⟩ = some (.string nm) ∧ V.cell? ⟨b5, 2, none⟩ = some (.int .i64 fo) ∧ V.cell? ⟨b5, 3, none⟩ = some (.slice At nt ct) ∧ V.cell? ⟨b5, 4, none⟩ = some (.slice Ag ng cg)) := Lib.hid (fun V hV => by
    have hi := hI.below hV hI.lt
    exact ⟨hi.cell 0, hi.cell 1, hi.cell 2, hi.cell 3, hi.cell 4⟩)
  have hks0 := HKS.out W5.drew HVD.out
  clear h25 hI hW5 hb5 x0
  go_upto_region 7 with fail
  refine wp_region_noPanic ?_
  refine wp_region_held_drew (S := (fun W => W.cell? ⟨b5, 0, none⟩ = some (.int .i64 fi) ∧ W.cell? ⟨b5, 1, none⟩ = some (.string nm) ∧ W.cell? ⟨b5, 2, none⟩ = some (.int .i64 fo) ∧ W.cell? ⟨b5, 3, none⟩ = some (.slice At nt ct) ∧ W.cell? ⟨b5, 4, none⟩ = some (.slice Ag ng cg))) (by kernel_rfl) hks0 (fun hHeld => ?_)
  refine wpAnyH_take (i := 0) (oi := ?oi_1) (v := ?_) ?hi_1 (by kernel_rfl) ?hf_1 (by kernel_rfl) ?hQ_1 ?hy_1 (by assumption) ?_
  case hi_1 => simp only [List.getElem?_toArray, List.getElem?_cons_zero, List.getElem?_cons_succ]; try rfl
  case hf_1 => kernel_rfl
  case hQ_1 => exact fun _ _ _ h => h
  case hy_1 =>
    refine Or.inl ⟨by rfl, ?_⟩
    intro W hSw
    obtain ⟨q0, q1, q2, q3, q4⟩ := hSw
    go_simp
    try with_reducible rfl
  try simp only [Act.put, List.setIfInBounds_toArray, List.set_cons_zero, List.set_cons_succ]
  refine wpAnyH_take (i := 1) (oi := ?oi_2) (v := ?_) ?hi_2 (by kernel_rfl) ?hf_2 (by kernel_rfl) ?hQ_2 ?hy_2 (by assumption) ?_
  case hi_2 => simp only [List.getElem?_toArray, List.getElem?_cons_zero, List.getElem?_cons_succ]; try rfl
  case hf_2 => kernel_rfl
  case hQ_2 => exact fun _ _ _ h => h
  case hy_2 =>
    refine Or.inl ⟨by rfl, ?_⟩
    intro W hSw
    obtain ⟨q0, q1, q2, q3, q4⟩ := hSw
    go_simp
    try with_reducible rfl
  try simp only [Act.put, List.setIfInBounds_toArray, List.set_cons_zero, List.set_cons_succ]
  refine wpAnyH_take (i := 2) (oi := ?oi_3) (v := ?_) ?hi_3 (by kernel_rfl) ?hf_3 (by kernel_rfl) ?hQ_3 ?hy_3 (by assumption) ?_
  case hi_3 => simp only [List.getElem?_toArray, List.getElem?_cons_zero, List.getElem?_cons_succ]; try rfl
  case hf_3 => kernel_rfl
  case hQ_3 => exact fun _ _ _ h => h
  case hy_3 =>
    refine Or.inl ⟨by rfl, ?_⟩
    intro W hSw
    obtain ⟨q0, q1, q2, q3, q4⟩ := hSw
    go_simp
    rw [if_pos (by omega)]
    try with_reducible rfl
  try simp only [Act.put, List.setIfInBounds_toArray, List.set_cons_zero, List.set_cons_succ]
  refine wpAnyH_ready (rs := [3, 4]) (by kernel_rfl) (by simp) ?_
  refine AllReadyH.cons (o := ?oi_8_0) ?hi_8_0 (fun K hK => ?_) (AllReadyH.cons (o := ?oi_8_1) ?hi_8_1 (fun K hK => ?_) AllReadyH.nil)
  case hi_8_0 => simp only [List.getElem?_toArray, List.getElem?_cons_zero, List.getElem?_cons_succ]; try rfl
  case hi_8_1 => simp only [List.getElem?_toArray, List.getElem?_cons_zero, List.getElem?_cons_succ]; try rfl
  · go_simp
    (go_at_call 49
     (with_reducible refine (HG.out At ct Ag cg hnt hct hng hcg _ _ (HB5.out.trans (HVD.out.mono HB5.out.size)) (by rcases Classical.em (ws = []) with hws | hws <;> first | exact HSS0.out hws _ _ | (rw [if_neg hws]; exact HSS.out _ HVD.out))).mono ?_)
     rintro e w7 ⟨Al, ln, lc, rfl, hsl, hb7, hfr, hlt⟩
     have HV7 := Lib.hid (HVD.out.trans (hb7.mono HVD.out.size))
     have HSL := Lib.hid hsl
     have HB7 := Lib.hid hb7
     have HFS : Hid (∀ p, Al = some p → W5.heap.size ≤ p.block) := Lib.hid (fun p e => Nat.le_trans HVD.out.size (hfr p e))
     have HFR := Lib.hid hfr
     have HLT : Hid (∀ p, Al = some p → p.block < w7.heap.size) := Lib.hid (fun p e => hlt p e)
     have hk_ := HKS.out _ HV7.out
     clear hsl hb7 hfr hlt)
    refine hK.out _ _ hk_ (fun hHeld => ?_)
    clear hK K
    try simp only [Act.put, List.setIfInBounds_toArray, List.set_cons_zero, List.set_cons_succ]
    refine wpAnyH_ready (rs := [4]) (by kernel_rfl) (by simp) ?_
    refine AllReadyH.cons (o := ?oi_5_0) ?hi_5_0 (fun K hK => ?_) AllReadyH.nil
    case hi_5_0 => simp only [List.getElem?_toArray, List.getElem?_cons_zero, List.getElem?_cons_succ]; try rfl
    go_simp
    have HVA := Lib.hid (HV7.out.alloc HV7.out.size (.cells #[.int .i64 0, .int .u64 0, .int .u64 0, .int .i64 0, .slice none 0 0] 30))
    have HG7 : Hid (W5.heap.size ≤ w7.heap.size) := Lib.hid HV7.out.size
    have HSA := Lib.hid (HSL.out.below ((Below.refl _ _).alloc (Nat.le_refl _) (.cells #[.int .i64 0, .int .u64 0, .int .u64 0, .int .i64 0, .slice none 0 0] 30)))
    have HNE : Hid (∀ p, Al = some p → ¬ p.block = w7.heap.size) := Lib.hid (fun p e => by have := HLT.out p e; omega)
    have hk_ := HKS.out _ HVA.out
    refine hK.out _ _ hk_ (fun hHeld => ?_)
    clear hK K
    try simp only [Act.put, List.setIfInBounds_toArray, List.set_cons_zero, List.set_cons_succ]
    refine wpAnyH_ready (rs := [5]) (by kernel_rfl) (by simp) ?_
    refine AllReadyH.cons (o := ?oi_4_0) ?hi_4_0 (fun K hK => ?_) AllReadyH.nil
    case hi_4_0 => simp only [List.getElem?_toArray, List.getElem?_cons_zero, List.getElem?_cons_succ]; try rfl
    have HBo : Hid (Blk (w7.alloc (.cells #[.int .i64 0, .int .u64 0, .int .u64 0, .int .i64 0, .slice none 0 0] 30)) w7.heap.size 30 #[.int .i64 0, .int .u64 0, .int .u64 0, .int .i64 0, .slice none 0 0]) := Lib.hid (Blk.new w7 30 _)
    have hk_ := HKS.out _ (below_setRow HVA.out (HG7.out) #[.int .i64 xc, .int .u64 xa, .int .u64 xb, .int .i64 xl, .slice Al ln lc])
    refine step_store_row rfl 30 (.tmp 7) (.tmp 27) rfl (w7.heap.size) #[.int .i64 xc, .int .u64 xa, .int .u64 xb, .int .i64 xl, .slice Al ln lc] rfl rfl 30 _ HBo.out (by kernel_rfl) rfl (by simp [Value.oneCell']) ?_
    refine hK.out _ _ hk_ (fun hHeld => ?_)
    clear hK K
    try simp only [Act.put, List.setIfInBounds_toArray, List.set_cons_zero, List.set_cons_succ]
    refine wpAnyH_done (by kernel_rfl) ?_ _
    refine NoPanic.normal ?_
    clear hHeld
    obtain ⟨W8, hW8⟩ : ∃ V, V = ((w7.alloc (.cells #[.int .i64 0, .int .u64 0, .int .u64 0, .int .i64 0, .slice none 0 0] 30))).setRow (w7.heap.size) #[.int .i64 xc, .int .u64 xa, .int .u64 xb, .int .i64 xl, .slice Al ln lc] := ⟨_, rfl⟩
    rw [← hW8]
    obtain ⟨b7, hb7⟩ : ∃ x, x = w7.heap.size := ⟨_, rfl⟩
    have HVS : Hid (Below W5.heap.size W5 W8) := Lib.hid (by rw [hW8]; exact below_setRow HVA.out HG7.out _)
    have HSLS : Hid (Sl W8 Al ln lc l) := Lib.hid (by rw [hW8]; exact sl_setRow HSA.out (HNE.out) _)
    have HBK : Hid (Blk W8 b7 30 #[.int .i64 xc, .int .u64 xa, .int .u64 xb, .int .i64 xl, .slice Al ln lc]) := Lib.hid (by rw [hW8, hb7]; exact setRow_heap _ _ _ _ 30 (0, 0) HBo.out)
    rw [← hb7]
    clear hW8 hb7 HBo hk_
    have HVE := Lib.hid (HB5.out.trans (HVS.out.mono HB5.out.size))
    have hs8 := HSLS.out
    have HP8 := Lib.hid (HPr.out Al ln lc _ HVE.out hs8)
    have l1 := hs8.2.1
    have l2 := hs8.2.2.1
    unfold maxLen at l2
    have y0 : W8.cell? ⟨b7, 0, none⟩ = some (.int .i64 xc) := HBK.out.cell 0
    have y1 : W8.cell? ⟨b7, 1, none⟩ = some (.int .u64 xa) := HBK.out.cell 1
    have y2 : W8.cell? ⟨b7, 2, none⟩ = some (.int .u64 xb) := HBK.out.cell 2
    have y3 : W8.cell? ⟨b7, 3, none⟩ = some (.int .i64 xl) := HBK.out.cell 3
    have y4 : W8.cell? ⟨b7, 4, none⟩ = some (.slice Al ln lc) := HBK.out.cell 4
    have HY := Lib.hid (fun V (hV : Below W8.heap.size W8 V) => HBK.out.below hV HBK.out.lt)
    have HRZ := Lib.hid (fun V (hV : Below W8.heap.size W8 V) => (HZ.out V (HX5.out.trans ((HVS.out.trans (hV.mono HVS.out.size)).mono HX5.out.size))))
    have HSY := Lib.hid (fun V (hV : Below W8.heap.size W8 V) => hs8.below hV)
    clear hs8
    go_wp2_with (first
      | (go_at_call 14; (with_reducible refine HP8.out.mono ?_); rintro e w9 ⟨rfl, hb9⟩
         have H9 := Lib.hid hb9
         have z0 : w9.cell? ⟨b7, 0, none⟩ = some (.int .i64 xc) := (HY.out _ hb9).cell 0
         have z1 : w9.cell? ⟨b7, 1, none⟩ = some (.int .u64 xa) := (HY.out _ hb9).cell 1
         have z2 : w9.cell? ⟨b7, 2, none⟩ = some (.int .u64 xb) := (HY.out _ hb9).cell 2
         have z3 : w9.cell? ⟨b7, 3, none⟩ = some (.int .i64 xl) := (HY.out _ hb9).cell 3
         have z4 : w9.cell? ⟨b7, 4, none⟩ = some (.slice Al ln lc) := (HY.out _ hb9).cell 4
         have HR9 := Lib.hid (HRZ.out _ hb9)
         have HS9 := Lib.hid (HSY.out _ hb9)
         have HE9 := Lib.hid (HVE.out.trans (hb9.mono HVE.out.size))
         clear hb9)
      | (refine wpList_store30 rfl (.tmp 2) (.tmp 33) rfl w.heap.size _ _ _ _ _ _ _ _ rfl rfl HR9.out (Lib.hid rfl) ?_))
    all_goals
     refine bodyPost_ret (v := .tuple #[.agg #[.int .i64 xc, .int .u64 xa, .int .u64 xb, .int .i64 xl, .slice Al ln lc], .int .i64 0]) (res_cell results25 _ _ w.heap.size 30 _ _ rfl (setRow_heap _ w.heap.size _ _ 30 (0, 0) HR9.out) Tryz.underlying30 rfl (by kernel_rfl)) rfl ?_
     refine ⟨Al, ln, lc, rfl, ?_, below_setRow HE9.out (Nat.le_refl _) _⟩
     exact sl_setRow HS9.out (fun p e => by have := HFS.out p e; have := HG5.out; omega) _
  · go_simp
    have HVA : Hid (Below W5.heap.size W5 (W5.alloc (.cells #[.int .i64 0, .int .u64 0, .int .u64 0, .int .i64 0, .slice none 0 0] 30)).drew) := Lib.hid (below_drew ((Below.refl _ _).alloc (Nat.le_refl _) _))
    have HBA : Hid (Blk (W5.alloc (.cells #[.int .i64 0, .int .u64 0, .int .u64 0, .int .i64 0, .slice none 0 0] 30)).drew W5.heap.size 30 #[.int .i64 0, .int .u64 0, .int .u64 0, .int .i64 0, .slice none 0 0]) := Lib.hid (Blk.new W5 30 _)
    have HG7 : Hid (W5.heap.size ≤ W5.heap.size) := Lib.hid (Nat.le_refl _)
    have hk_ := HKS.out _ HVA.out
    refine hK.out _ _ hk_ (fun hHeld => ?_)
    clear hK K
    try simp only [Act.put, List.setIfInBounds_toArray, List.set_cons_zero, List.set_cons_succ]
    refine wpAnyH_ready (rs := [3]) (by kernel_rfl) (by simp) ?_
    refine AllReadyH.cons (o := ?oi_7_0) ?hi_7_0 (fun K hK => ?_) AllReadyH.nil
    case hi_7_0 => simp only [List.getElem?_toArray, List.getElem?_cons_zero, List.getElem?_cons_succ]; try rfl
    go_simp
    (go_at_call 49
     (with_reducible refine (HG.out At ct Ag cg hnt hct hng hcg _ _ (HB5.out.trans (HVA.out.mono HB5.out.size)) (by rcases Classical.em (ws = []) with hws | hws <;> first | exact HSS0.out hws _ _ | (rw [if_neg hws]; exact HSS.out _ HVA.out))).mono ?_)
     rintro e w7 ⟨Al, ln, lc, rfl, hsl, hb7, hfr, hlt⟩
     have HV7 := Lib.hid (HVA.out.trans (hb7.mono HVA.out.size))
     have HSL := Lib.hid hsl
     have HB7 := Lib.hid hb7
     have HFS : Hid (∀ p, Al = some p → W5.heap.size ≤ p.block) := Lib.hid (fun p e => Nat.le_trans HVA.out.size (hfr p e))
     have HFR := Lib.hid hfr
     have HLT : Hid (∀ p, Al = some p → p.block < w7.heap.size) := Lib.hid (fun p e => hlt p e)
     have hk_ := HKS.out _ HV7.out
     clear hsl hb7 hfr hlt)
    refine hK.out _ _ hk_ (fun hHeld => ?_)
    clear hK K
    try simp only [Act.put, List.setIfInBounds_toArray, List.set_cons_zero, List.set_cons_succ]
    refine wpAnyH_ready (rs := [5]) (by kernel_rfl) (by simp) ?_
    refine AllReadyH.cons (o := ?oi_6_0) ?hi_6_0 (fun K hK => ?_) AllReadyH.nil
    case hi_6_0 => simp only [List.getElem?_toArray, List.getElem?_cons_zero, List.getElem?_cons_succ]; try rfl
    have HBo : Hid (Blk w7 W5.heap.size 30 #[.int .i64 0, .int .u64 0, .int .u64 0, .int .i64 0, .slice none 0 0]) := Lib.hid (HBA.out.below HB7.out HBA.out.lt)
    have hk_ := HKS.out _ (below_setRow HV7.out (HG7.out) #[.int .i64 xc, .int .u64 xa, .int .u64 xb, .int .i64 xl, .slice Al ln lc])
    refine step_store_row rfl 30 (.tmp 7) (.tmp 27) rfl (W5.heap.size) #[.int .i64 xc, .int .u64 xa, .int .u64 xb, .int .i64 xl, .slice Al ln lc] rfl rfl 30 _ HBo.out (by kernel_rfl) rfl (by simp [Value.oneCell']) ?_
    refine hK.out _ _ hk_ (fun hHeld => ?_)
    clear hK K
    try simp only [Act.put, List.setIfInBounds_toArray, List.set_cons_zero, List.set_cons_succ]
    refine wpAnyH_done (by kernel_rfl) ?_ _
    refine NoPanic.normal ?_
    clear hHeld
    obtain ⟨W8, hW8⟩ : ∃ V, V = (w7).setRow (W5.heap.size) #[.int .i64 xc, .int .u64 xa, .int .u64 xb, .int .i64 xl, .slice Al ln lc] := ⟨_, rfl⟩
    rw [← hW8]
    obtain ⟨b7, hb7⟩ : ∃ x, x = W5.heap.size := ⟨_, rfl⟩
    have HVS : Hid (Below W5.heap.size W5 W8) := Lib.hid (by rw [hW8]; exact below_setRow HV7.out HG7.out _)
    have HSLS : Hid (Sl W8 Al ln lc l) := Lib.hid (by rw [hW8]; exact sl_setRow HSL.out (fun p e => by have := HFR.out p e; simp at this; omega) _)
    have HBK : Hid (Blk W8 b7 30 #[.int .i64 xc, .int .u64 xa, .int .u64 xb, .int .i64 xl, .slice Al ln lc]) := Lib.hid (by rw [hW8, hb7]; exact setRow_heap _ _ _ _ 30 (0, 0) HBo.out)
    rw [← hb7]
    clear hW8 hb7 HBo hk_
    have HVE := Lib.hid (HB5.out.trans (HVS.out.mono HB5.out.size))
    have hs8 := HSLS.out
    have HP8 := Lib.hid (HPr.out Al ln lc _ HVE.out hs8)
    have l1 := hs8.2.1
    have l2 := hs8.2.2.1
    unfold maxLen at l2
    have y0 : W8.cell? ⟨b7, 0, none⟩ = some (.int .i64 xc) := HBK.out.cell 0
    have y1 : W8.cell? ⟨b7, 1, none⟩ = some (.int .u64 xa) := HBK.out.cell 1
    have y2 : W8.cell? ⟨b7, 2, none⟩ = some (.int .u64 xb) := HBK.out.cell 2
    have y3 : W8.cell? ⟨b7, 3, none⟩ = some (.int .i64 xl) := HBK.out.cell 3
    have y4 : W8.cell? ⟨b7, 4, none⟩ = some (.slice Al ln lc) := HBK.out.cell 4
    have HY := Lib.hid (fun V (hV : Below W8.heap.size W8 V) => HBK.out.below hV HBK.out.lt)
    have HRZ := Lib.hid (fun V (hV : Below W8.heap.size W8 V) => (HZ.out V (HX5.out.trans ((HVS.out.trans (hV.mono HVS.out.size)).mono HX5.out.size))))
    have HSY := Lib.hid (fun V (hV : Below W8.heap.size W8 V) => hs8.below hV)
    clear hs8
    go_wp2_with (first
      | (go_at_call 14; (with_reducible refine HP8.out.mono ?_); rintro e w9 ⟨rfl, hb9⟩
         have H9 := Lib.hid hb9
         have z0 : w9.cell? ⟨b7, 0, none⟩ = some (.int .i64 xc) := (HY.out _ hb9).cell 0
         have z1 : w9.cell? ⟨b7, 1, none⟩ = some (.int .u64 xa) := (HY.out _ hb9).cell 1
         have z2 : w9.cell? ⟨b7, 2, none⟩ = some (.int .u64 xb) := (HY.out _ hb9).cell 2
         have z3 : w9.cell? ⟨b7, 3, none⟩ = some (.int .i64 xl) := (HY.out _ hb9).cell 3
         have z4 : w9.cell? ⟨b7, 4, none⟩ = some (.slice Al ln lc) := (HY.out _ hb9).cell 4
         have HR9 := Lib.hid (HRZ.out _ hb9)
         have HS9 := Lib.hid (HSY.out _ hb9)
         have HE9 := Lib.hid (HVE.out.trans (hb9.mono HVE.out.size))
         clear hb9)
      | (refine wpList_store30 rfl (.tmp 2) (.tmp 33) rfl w.heap.size _ _ _ _ _ _ _ _ rfl rfl HR9.out (Lib.hid rfl) ?_))
    all_goals
     refine bodyPost_ret (v := .tuple #[.agg #[.int .i64 xc, .int .u64 xa, .int .u64 xb, .int .i64 xl, .slice Al ln lc], .int .i64 0]) (res_cell results25 _ _ w.heap.size 30 _ _ rfl (setRow_heap _ w.heap.size _ _ 30 (0, 0) HR9.out) Tryz.underlying30 rfl (by kernel_rfl)) rfl ?_
     refine ⟨Al, ln, lc, rfl, ?_, below_setRow HE9.out (Nat.le_refl _) _⟩
     exact sl_setRow HS9.out (fun p e => by have := HFS.out p e; have := HG5.out; omega) _
end Go.Proofs.YtggfaalodojjkaaGreatDoor
/-
  instr: op of a right instruction; an op by its name; the law's first question (awake).
-/
namespace Go.Proofs.YtggfaalodojjkaaGreatDoor
open Go.RowKit
set_option linter.unusedVariables false
set_option linter.unusedSimpArgs false
/-- op of an instruction that may be -/
theorem op_right (x : In) (r : Rw) (hr : rightI x r) (A : Option Addr) (c : Nat) (w : World) (hT : Tb w) (hcd : (Lit.int .i64 x.cd).wf = true) (hl : Sl w A x.l.length c x.l) (hn : x.l.length ≤ 200000) :
    Calls Tryz.prog 29 #[.agg (I5 x (.slice A x.l.length c)).toArray] w fun e w' => ∃ At ct Ag cg, r.takes.length ≤ ct ∧ ct ≤ 9223372036854775807 ∧ r.gives.length ≤ cg ∧ cg ≤ 9223372036854775807 ∧ e = .returned (.tuple #[.agg (infV r (x.cd - r.first).toNat At ct Ag cg), .bool true]) ∧ Below w.heap.size w w' := by
  refine (op_ok x A c w hT hcd hl hn).mono ?_
  rintro e w' ⟨hb, h⟩
  rcases h with ⟨_, h⟩ | ⟨r', At, ct, Ag, cg, hr', rfl, hI⟩
  · exact absurd hr (h r)
  · obtain ⟨k, h1, _⟩ := hr
    obtain ⟨k', h1', _⟩ := hr'
    obtain ⟨rfl, rfl⟩ := RowOf.uniq h1 h1'
    obtain ⟨q1, q2, q3, q4⟩ := hI.len
    exact ⟨At, ct, Ag, cg, q1, q2, q3, q4, rfl, hb⟩
/-- the op of a row's name -/
theorem named_row (r : Rw) (i : Nat) (hr : r ∈ RW) (hi : i < (Lib.fields r.names).length) (w : World) (hT : Tb w) : Calls Tryz.prog 48 #[.string (nmS r i)] w (IPost r i w) := by
  refine (Named_any (nmS r i) w hT).mono ?_
  intro e w' h
  have ho : OpAt ((r.first : Int) + (i : Int)) r i := ⟨mem_OPS.2 ⟨hr, hi⟩, rfl⟩
  rcases h with ⟨k', r', i', h1, h2, h3, h4⟩ | ⟨h, _⟩
  · have ho' : OpAt ((r'.first : Int) + (i' : Int)) r' i' := ⟨mem_OPS.2 ⟨List.mem_of_getElem? h1, h2⟩, rfl⟩
    have e1 := (names_apart ho' ho).1 h3
    obtain ⟨k1, hk1⟩ := RowOf.of_op ho
    obtain ⟨k2, hk2⟩ := RowOf.of_op ho'
    rw [e1] at hk2
    obtain ⟨_, rfl⟩ := RowOf.uniq hk1 hk2
    have : i' = i := by omega
    subst this
    exact h4
  · obtain ⟨k, hk⟩ := List.mem_iff_getElem?.1 hr
    exact absurd rfl (h k r i hk hi)
def x40 : In := ⟨40, 1, 8, 2, []⟩
end Go.Proofs.YtggfaalodojjkaaGreatDoor
/-
  instr: the law's first question: one access, there and back.
-/
namespace Go.Proofs.YtggfaalodojjkaaGreatDoor
open Go.RowKit
set_option linter.unusedVariables false
set_option linter.unusedSimpArgs false
def nl40 : List UInt8 := [105, 51, 50, 46, 108, 111, 97, 100]
def ws40 : List (List UInt8) := [[49], [56], [50]]
theorem mem12 : rw12 ∈ RW := by simp [RW]
theorem len12 : (Lib.fields rw12.names).length = 1 := by kernel_rfl
theorem nm12 : nmS rw12 0 = bs nl40 := by kernel_rfl
theorem right40 : rightI x40 rw12 := by
  obtain ⟨k, hk⟩ := RowOf.of_op (code := 40) (r := rw12) (i := 0) ⟨mem_OPS.2 ⟨mem12, by rw [len12]; decide⟩, rfl⟩
  exact ⟨k, hk, by rw [len12]; decide, by kernel_rfl⟩
theorem join40 : Lib.join (nl40 :: ws40) [32] = [105, 51, 50, 46, 108, 111, 97, 100, 32, 49, 32, 56, 32, 50] := by kernel_rfl
theorem tn40 : [1, 8, 2].map tn = ws40 := by
  simp [tn, ws40, Lib.decDigits]
theorem op40 (A : Option Addr) (c : Nat) (w : World) (hT : Tb w) (hl : Sl w A 0 c []) :
    Calls Tryz.prog 29 #[.agg #[.int .i64 40, .int .u64 1, .int .u64 8, .int .i64 2, .slice A 0 c]] w fun e w' => ∃ At ct Ag cg, 1 ≤ ct ∧ ct ≤ 9223372036854775807 ∧ 1 ≤ cg ∧ cg ≤ 9223372036854775807 ∧ e = .returned (.tuple #[.agg #[.int .i64 40, .string (bs nl40), .int .i64 8, .slice At 1 ct, .slice Ag 1 cg], .bool true]) ∧ Below w.heap.size w w' := by
  have h := op_right x40 rw12 right40 A c w hT (by decide) hl (by decide)
  have e0 : (x40.cd - (rw12.first : Int)).toNat = 0 := by decide
  unfold infV at h
  rw [e0, nm12] at h
  exact h
theorem enc40 (w : World) (hT : Tb w) : Calls Tryz.prog 10 #[.agg #[.int .i64 40, .int .u64 1, .int .u64 8, .int .i64 2, .slice none 0 0]] w (EnP [40, 66, 1, 8] w) := by
  have hs := hT.size
  have h := enc_walk 40 1 8 2 none 0 0 (Nat.le_refl _) (by omega) w 40 8 (bs nl40) 1 1 (by decide) [40] [66, 1, 8] (by decide) (by decide) (by decide)
    (Lib.hid fun W hW => op40 none 0 W (hT.below hW hs) ⟨rfl, Nat.le_refl _, by unfold maxLen; omega, fun h => by omega⟩)
    (Lib.hid fun W => by have := head_ok 40 (by decide) (by decide) W; rwa [show headL 40 = [40] from by decide] at this)
    (Lib.hid fun W => numbers_8 40 1 8 2 none 0 0 W (by decide) (by decide) (by decide))
  rwa [show [40] ++ putL [66, 1, 8] = [40, 66, 1, 8] from by kernel_rfl] at h
theorem print40 (A : Option Addr) (n c : Nat) (w : World) (hL : Lw w) (hl : Sl w A n c []) :
    Calls Tryz.prog 14 #[.agg #[.int .i64 40, .int .u64 1, .int .u64 8, .int .i64 2, .slice A n c]] w fun e w' => e = .returned (.string (bs (Lib.join (nl40 :: ws40) [32]))) ∧ Below w.heap.size w w' := by
  obtain rfl : 0 = n := hl.1
  have hs := hL.tb.1.size
  have hcm := hl.2.2.1
  unfold maxLen at hcm
  refine print_walk 40 1 8 2 A 0 c hl.2.1 (by omega) w 40 8 nl40 1 1 ws40 (by decide) (by rw [join40]; decide)
    (Lib.hid fun W hW => op40 A c W (hL.below hW).tb.1 (hl.below hW))
    (Lib.hid fun At ct Ag cg W hW => by
      have := words_8 40 1 8 2 A 0 c 40 (bs nl40) At Ag 1 ct 1 cg W (hL.below hW) (by decide) (by decide) (by decide)
      rwa [tn40] at this)
theorem parse40 (w : World) (hL : Lw w) :
    Calls Tryz.prog 25 #[.string ⟨#[105, 51, 50, 46, 108, 111, 97, 100, 32, 49, 32, 56, 32, 50]⟩] w fun e w' => ∃ Al ln lc, e = .returned (.tuple #[.agg #[.int .i64 40, .int .u64 1, .int .u64 8, .int .i64 2, .slice Al ln lc], .int .i64 0]) ∧ Sl w' Al ln lc [] ∧ Below w.heap.size w w' := by
  have h := parse_walk nl40 ws40 (by decide) (by rw [join40]; decide) (by decide) w hL 40 8 (bs nl40) 1 1 40 1 8 2 []
    (Lib.hid fun V hV => by
      have := named_row rw12 0 mem12 (by rw [len12]; decide) V (hL.below hV).tb.1
      rw [nm12] at this
      refine this.mono ?_
      rintro e w' ⟨At, ct, Ag, cg, rfl, h1, h2, h3⟩
      have hI : InfAt w' V.heap.size rw12 0 At ct Ag cg := ⟨h1, h2⟩
      obtain ⟨q1, q2, q3, q4⟩ := hI.len
      refine ⟨At, ct, Ag, cg, q1, q2, q3, q4, ?_, h3⟩
      rw [nm12]
      rfl)
    (Lib.hid fun At ct Ag cg h1 h2 h3 h4 A V hV hS => by
      have := guess_8 40 (bs nl40) At Ag 1 ct 1 cg h1 h2 h3 h4 A 3 3 ws40 (pzf 64 18446744073709551615) V hS (fun k hk U hU => Parse_64 _ (by
        have : k = 0 ∨ k = 1 ∨ k = 2 := by omega
        rcases this with rfl | rfl | rfl <;> decide) U (hL.below (hV.trans (hU.mono hV.size))))
      have e0 : nvl (pzf 64 18446744073709551615) ws40 0 = 1 := by kernel_rfl
      have e1 : nvl (pzf 64 18446744073709551615) ws40 1 = 8 := by kernel_rfl
      have e2 : nvl (pzf 64 18446744073709551615) ws40 2 = 2 := by kernel_rfl
      have w2 : wrap64 ((2 : Nat) : Int) = 2 := by kernel_rfl
      rw [e0, e1, e2, w2] at this
      exact this)
    (Lib.hid fun A n c V hV hS => print40 A n c V (hL.below hV) hS)
  rw [join40] at h
  exact h
end Go.Proofs.YtggfaalodojjkaaGreatDoor
