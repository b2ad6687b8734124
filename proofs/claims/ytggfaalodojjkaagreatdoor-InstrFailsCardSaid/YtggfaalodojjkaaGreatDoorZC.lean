/-
  instr: Decode of a cursor.
-/
import Derived.Test.YtggfaalodojjkaaGreatDoorZB
import Derived.Test.YtggfaalodojjkaaGreatDoorZ7
import Derived.Test.YtggfaalodojjkaaGreatDoorZ2
namespace Go.Proofs.YtggfaalodojjkaaGreatDoor
open Go.RowKit
set_option linter.unusedVariables false
set_option linter.unusedSimpArgs false
theorem results17 : Tryz.f17.results = #[.cell 2 30, .tmp 3] := by kernel_rfl
theorem res_cell30 {fn : Func} {P : Program} {p u : Tmp} {ty : TypeId} (h : fn.results = #[.cell p ty, .tmp u]) (tmps : Array Value) (w : World) (g : Nat) (t : TypeId) (cs : Array Value) (d : TypeDesc)
    (hp : tmps.getD p undef = .pointer (some ⟨g, 0, none⟩)) (hg : w.heap[g]? = some (.cells cs t (0, 0))) (hu : P.underlying ty = some d) (hd : (match d with | .struct _ | .array _ _ => true | _ => false) = true) (hi : (P.info? ty).map (·.size) = some cs.size) :
    (results fn tmps).run P w = .ok (.tuple #[.agg cs, tmps.getD u undef]) w := res_cell h tmps w g t cs d hp hg hu hd hi
theorem dec_fr {w V V' : World} {f c R b2 : Nat} (h : Fr (FR f c R) w V) (hf : Fr (fun q => q = b2) V V') (h1 : b2 + 1 = R ∧ b2 = w.heap.size) (h2 : True) : Fr (FC f c) w V' := by
  refine (⟨h.os, h.tape, h.output, h.size, fun i hi hs => h.block i hi (fun q => ?_)⟩ : Fr (FC f c) w V).trans_new hf (fun i e => .inr (by omega))
  rcases q with e | e | e
  · exact hs (.inl e)
  · exact hs (.inr e)
  · omega
section
variable {w w' : World} {f g c N : Nat} {l : List Nat} {fa : Int} {fr t a0 m : Nat}
/-- what Decode answers, and leaves -/
def DI (f g c N : Nat) (l : List Nat) (r : Nat) (fa : Int) (fr t a : Nat) (w : World) (e : Ending) (w' : World) : Prop :=
  ∃ (cd : Int) (x y : Nat) (al : Int) (A : Option Addr) (n cp : Nat) (er r' a' : Nat), e = .returned (.tuple #[.agg #[.int .i64 cd, .int .u64 (x : Int), .int .u64 (y : Int), .int .i64 al, .slice A n cp], .int .i64 er]) ∧ St w' f g c N l r' fa fr t a' ∧ Fr (FC f c) w w' ∧ r' ≤ r + 3000 ∧
    ((er = 0 ∧ a + 1 ≤ a' ∧ (r' : Int) ≤ fa) ∨ (er ≠ 0 ∧ a' = a ∧ (er = 9 → fa < (r' : Int))))
theorem DI.mk_ {r a r' a' er x y n cp : Nat} {cd al : Int} {A : Option Addr} (h1 : St w' f g c N l r' fa fr t a') (h2 : Fr (FC f c) w w') (h3 : r' ≤ r + 3000) (h4 : (er = 0 ∧ a + 1 ≤ a' ∧ (r' : Int) ≤ fa) ∨ (er ≠ 0 ∧ a' = a ∧ (er = 9 → fa < (r' : Int)))) : DI f g c N l r fa fr t a w (.returned (.tuple #[.agg #[.int .i64 cd, .int .u64 (x : Int), .int .u64 (y : Int), .int .i64 al, .slice A n cp], .int .i64 er])) w' :=
  ⟨cd, x, y, al, A, n, cp, er, r', a', rfl, h1, h2, h3, h4⟩
set_option maxHeartbeats 4000000 in
set_option maxRecDepth 100000 in
theorem Decode_i {r a : Nat} (h : St w f g c N l r fa fr t a) (hr : (r : Int) ≤ fa) (h0 : 0 ≤ fa) (hm : r < 30000) (hx : ∀ z ∈ l, z < 256) (hT : Tb w) (hTab : Tab w 1 13 2 forL) (h2f : 2 ≤ f) (h2c : 2 ≤ c) : Calls Tryz.prog 17 #[.pointer (some ⟨c, 0, none⟩)] w (DI f g c N l r fa fr t a w) := by
  obtain ⟨W0, hW0⟩ : ∃ V, V = w.alloc (.cells #[.int .i64 0, .int .u64 0, .int .u64 0, .int .i64 0, .slice none 0 0] 30) := ⟨_, rfl⟩
  obtain ⟨b2, hb2⟩ : ∃ x, x = w.heap.size := ⟨_, rfl⟩
  obtain ⟨W1, hW1⟩ : ∃ V, V = W0.alloc (.cells #[.pointer (some ⟨c, 0, none⟩), .int .i64 0] 89) := ⟨_, rfl⟩
  obtain ⟨R, hR⟩ : ∃ x, x = w.heap.size + 1 := ⟨_, rfl⟩
  have hf0 : Fr (fun _ => False) w W0 := by rw [hW0]; exact (Fr.refl _ w).alloc _
  have hf1 : Fr (fun _ => False) w W1 := by rw [hW1]; exact hf0.alloc _
  have hs0 : W0.heap.size = R := by rw [hW0, hR]; simp
  have hZ1 : Blk W1 b2 30 #[.int .i64 0, .int .u64 0, .int .u64 0, .int .i64 0, .slice none 0 0] := by rw [hW1, hW0, hb2]; exact (Blk.new w 30 _).alloc _
  have hR1 : Blk W1 R 89 #[.pointer (some ⟨c, 0, none⟩), .int .i64 ((0 : Nat) : Int)] := by rw [hW1, ← hs0]; exact Blk.new W0 89 _
  have hRS : RSt W1 f g c N l r fa fr t a R 0 := ⟨h.fr_ hf1 (fun q => q) (fun q => q) (fun q => q), hR1⟩
  have hlt : f < b2 ∧ g < b2 ∧ c < b2 := by rw [hb2]; exact ⟨h.fl.blk.lt, h.fl.byt.lt, h.cu.lt⟩
  have hEv : Ev W1 f c R := ⟨tb_fr hT hf1 (fun q => q), tab_fr hTab hf1 (fun q => q), h2f, h2c, by omega⟩
  have HAt := Lib.hid (At_any W0 c f fr t a (h.cu.fr hf0 (fun q => q)))
  have HIn := Lib.hid (instr_i hRS hr h0 hm hx hEv)
  have hfrt : fr ≤ a ∧ a ≤ t := ⟨h.h1, h.h2⟩
  have HZ := Lib.hid (fun w1 (q : Fr (FR f c R) W1 w1) => hZ1.fr q (by rintro (e | e | e) <;> omega))
  have HLT := Lib.hid (And.intro hlt (And.intro (show b2 + 1 = R by omega) hb2))
  have HF1 := Lib.hid hf1
  have HW0 := Lib.hid hW0
  have HW1 := Lib.hid hW1
  have HB := Lib.hid hb2
  have HS0 := Lib.hid hs0
  have HRl := Lib.hid hR1.lt
  have HFT := Lib.hid hfrt
  unfold InI at HIn
  clear h hT hTab hW0 hb2 hW1 hR hf0 hf1 hs0 hZ1 hR1 hRS hlt hEv hfrt
  go_enter Tryz.func17, Tryz.ntmps17
  go_upto_region 1 with fail
  rw [← HW0.out, ← HB.out]
  go_upto_region 2 with (go_at_call 24; refine HAt.out.mono ?_; rintro e w1 ⟨rfl, rfl⟩)
  go_upto_region 3 with fail
  first | rw [HS0.out] | skip
  rw [← HW1.out]
  go_upto_region 4 with (go_at_call 41; refine HIn.out.mono ?_; rintro e w2 ⟨cd, x, y, al, A, n, cp, rfl, q1, q2⟩; have H2 := Lib.hid q1; have F2 := Lib.hid q2; clear q1 q2)
  obtain ⟨W3, hW3⟩ : ∃ V, V = w2.alloc (.cells #[.int .i64 cd, .int .u64 (x : Int), .int .u64 (y : Int), .int .i64 al, .slice A n cp] 30) := ⟨_, rfl⟩
  obtain ⟨b6, hb6⟩ : ∃ x, x = w2.heap.size := ⟨_, rfl⟩
  have hf3 : Fr (fun _ => False) w2 W3 := by rw [hW3]; exact (Fr.refl _ w2).alloc _
  have hX3 : Blk W3 b6 30 #[.int .i64 cd, .int .u64 (x : Int), .int .u64 (y : Int), .int .i64 al, .slice A n cp] := by rw [hW3, hb6]; exact Blk.new w2 30 _
  have hZ3 := (HZ.out w2 F2.out).fr hf3 (fun q => q)
  rw [← hb6, ← hW3]
  obtain ⟨r1, a1, er, hS, k0, k9, k1⟩ := H2.out.new hf3
  have hlt6 : R < b6 := by rw [hb6]; exact Nat.lt_of_lt_of_le HRl.out F2.out.size
  have hR3 := hS.rd
  have e1 : W3.cell? ⟨R, 1, none⟩ = some (.int .i64 er) := hR3.cell 1
  have x0 : W3.cell? ⟨b6, 0, none⟩ = some (.int .i64 cd) := hX3.cell 0
  have x1 : W3.cell? ⟨b6, 1, none⟩ = some (.int .u64 (x : Int)) := hX3.cell 1
  have x2 : W3.cell? ⟨b6, 2, none⟩ = some (.int .u64 (y : Int)) := hX3.cell 2
  have x3 : W3.cell? ⟨b6, 3, none⟩ = some (.int .i64 al) := hX3.cell 3
  have x4 : W3.cell? ⟨b6, 4, none⟩ = some (.slice A n cp) := hX3.cell 4
  have HZ3 := Lib.hid hZ3
  have F3 := Lib.hid ((HF1.out.more (fun q e => e.elim)).trans (F2.out.trans (hf3.more (fun q e => e.elim))))
  have HSt := Lib.hid hS.st
  have HX := Lib.hid (And.intro k0 (And.intro k9 k1))
  clear hf3 hX3 hZ3 hW3 hb6 hS k0 k9 k1 HAt HIn HZ H2 F2
  by_cases he : er = 0
  · have HK0 := Lib.hid (HX.out.1 he)
    have HK1 := Lib.hid HX.out.2.2
    subst he
    clear HX
    go_upto_region 7 with fail
    go_wp2_with (refine wpList_store_row rfl 30 (.tmp 2) (.tmp 21) rfl b2 #[.int .i64 cd, .int .u64 (x : Int), .int .u64 (y : Int), .int .i64 al, .slice A n cp] rfl rfl 30 #[.int .i64 0, .int .u64 0, .int .u64 0, .int .i64 0, .slice none 0 0] HZ3.out (by kernel_rfl) rfl (by simp [Value.oneCell']) ?_)
    refine bodyPost_ret (v := .tuple #[.agg #[.int .i64 cd, .int .u64 (x : Int), .int .u64 (y : Int), .int .i64 al, .slice A n cp], .int .i64 ((0 : Nat) : Int)]) (res_cell30 results17 _ _ b2 30 _ _ rfl (setRow_heap _ b2 _ _ 30 (0, 0) HZ3.out) Tryz.underlying30 rfl (by kernel_rfl)) rfl ?_
    have q1 := HLT.out
    have q2 := HK0.out
    exact DI.mk_ (HSt.out.fr_ (fr_setRow _ b2 _) (by omega) (by omega) (by omega)) (dec_fr F3.out (fr_setRow _ b2 _) ⟨q1.2.1, q1.2.2⟩ trivial) HK1.out (.inl ⟨rfl, q2.1, q2.2⟩)
  · have hne : (((er : Nat) : Int) != 0) = true := by rw [bne_iff_ne]; omega
    have HG := Lib.hid (Go_yes W3 c f fr t a1 (a : Int) HSt.out.cu (by have := HFT.out; omega) (by have := HFT.out; omega))
    obtain ⟨W4, hW4⟩ : ∃ V, V = W3.setCell ⟨c, 3, none⟩ (.int .i64 (a : Int)) := ⟨_, rfl⟩
    have hS4 := HSt.out.moved a HFT.out.1 HFT.out.2
    have hf4 : Fr (fun q => q = c) W3 W4 := by rw [hW4]; exact (Fr.refl (fun q => q = c) W3).set_ (p := ⟨c, 3, none⟩) rfl _
    rw [← hW4] at hS4 HG
    have hR4 := hR3.fr hf4 (by have := HLT.out; omega)
    have e4 : W4.cell? ⟨R, 1, none⟩ = some (.int .i64 er) := hR4.cell 1
    have HZ4 := Lib.hid (HZ3.out.fr hf4 (by have := HLT.out; omega))
    have HS4 := Lib.hid hS4
    have F4 := Lib.hid (F3.out.trans (hf4.more (fun q e => .inr (.inl e))))
    clear hW4 hf4 hR4 hS4 hR3
    go_upto_region 6 with (go_at_call 22; refine HG.out.mono ?_; rintro e w5 ⟨rfl, rfl⟩)
    clear e1 x0 x1 x2 x3 x4
    have KH : Hid ((W4.drew.setRow b2 #[.int .i64 0, .int .u64 0, .int .u64 0, .int .i64 0, .slice none 0 0]).cell? ⟨R, 1, none⟩ = some (.int .i64 er)) := Lib.hid (by
      have hb := (fr_setRow W4.drew b2 #[.int .i64 0, .int .u64 0, .int .u64 0, .int .i64 0, .slice none 0 0])
      have h9 := HLT.out
      have h8 : R < W4.drew.heap.size := World.block_lt_of_cell? W4.drew ⟨R, 1, none⟩ e4
      have := hb.block R h8 (by omega)
      simp only [World.cell?] at e4 ⊢
      rw [this]
      exact e4)
    refine wp_region_held_drew (S := (fun W => W.cell? ⟨R, 1, none⟩ = some (.int .i64 er))) (by kernel_rfl) e4 (fun hHeld => ?_)
    refine wpAnyH_take (i := 0) (oi := ?oi_1) (v := ?_) ?hi_1 (by kernel_rfl) ?hf_1 (by kernel_rfl) ?hQ_1 ?hy_1 (by assumption) ?_
    case hi_1 => simp only [List.getElem?_toArray, List.getElem?_cons_zero, List.getElem?_cons_succ] <;> rfl
    case hf_1 => kernel_rfl
    case hQ_1 => exact fun _ _ _ h => h
    case hy_1 =>
      refine Or.inl ⟨by rfl, ?_⟩
      intro W hSw
      have hq0 := hSw
      go_simp
      try with_reducible rfl
    try simp only [Act.put, List.setIfInBounds_toArray, List.set_cons_zero, List.set_cons_succ]
    refine wpAnyH_take (i := 1) (oi := ?oi_2) (v := ?_) ?hi_2 (by kernel_rfl) ?hf_2 (by kernel_rfl) ?hQ_2 ?hy_2 (by assumption) ?_
    case hi_2 => simp only [List.getElem?_toArray, List.getElem?_cons_zero, List.getElem?_cons_succ] <;> rfl
    case hf_2 => kernel_rfl
    case hQ_2 => exact fun _ _ _ h => h
    case hy_2 =>
      refine Or.inl ⟨by rfl, ?_⟩
      intro W hSw
      have hq0 := hSw
      go_simp
      try with_reducible rfl
    try simp only [Act.put, List.setIfInBounds_toArray, List.set_cons_zero, List.set_cons_succ]
    refine wpAnyH_take (i := 2) (oi := ?oi_3) (v := ?_) ?hi_3 (by kernel_rfl) ?hf_3 (by kernel_rfl) ?hQ_3 ?hy_3 (by assumption) ?_
    case hi_3 => simp only [List.getElem?_toArray, List.getElem?_cons_zero, List.getElem?_cons_succ] <;> rfl
    case hf_3 => kernel_rfl
    case hQ_3 => exact fun _ _ _ h => h
    case hy_3 =>
      refine Or.inl ⟨by rfl, ?_⟩
      intro W hSw
      have hq0 := hSw
      go_simp
      try with_reducible rfl
    try simp only [Act.put, List.setIfInBounds_toArray, List.set_cons_zero, List.set_cons_succ]
    refine wpAnyH_ready (rs := [3]) (by kernel_rfl) (by simp) ?_
    refine AllReadyH.cons (o := ?oi_4) ?hi_4 (fun K hK => ?_) AllReadyH.nil
    case hi_4 => simp only [List.getElem?_toArray, List.getElem?_cons_zero, List.getElem?_cons_succ] <;> rfl
    refine step_store_row rfl 30 (.tmp 2) (.tmp 18) rfl b2 #[.int .i64 0, .int .u64 0, .int .u64 0, .int .i64 0, .slice none 0 0] rfl rfl 30 #[.int .i64 0, .int .u64 0, .int .u64 0, .int .i64 0, .slice none 0 0] (HZ4.out.drewN 1) (by kernel_rfl) rfl (by simp [Value.oneCell']) ?_
    refine hK.out _ _ KH.out (fun hHeld => ?_)
    clear hK K
    try simp only [Act.put, List.setIfInBounds_toArray, List.set_cons_zero, List.set_cons_succ]
    refine wpAnyH_take (i := 4) (oi := ?oi_5) (v := ?_) ?hi_5 (by kernel_rfl) ?hf_5 (by kernel_rfl) ?hQ_5 ?hy_5 (by assumption) ?_
    case hi_5 => simp only [List.getElem?_toArray, List.getElem?_cons_zero, List.getElem?_cons_succ] <;> rfl
    case hf_5 => kernel_rfl
    case hQ_5 => exact fun _ _ _ h => h
    case hy_5 =>
      refine Or.inl ⟨by rfl, ?_⟩
      intro W hSw
      have hq0 := hSw
      go_simp
      try with_reducible rfl
    try simp only [Act.put, List.setIfInBounds_toArray, List.set_cons_zero, List.set_cons_succ]
    refine wpAnyH_done (by kernel_rfl) ?_ _
    clear hHeld
    simp only [Exit.inBlock, Exit.then]
    go_wp2
    refine bodyPost_ret (v := .tuple #[.agg #[.int .i64 0, .int .u64 0, .int .u64 0, .int .i64 0, .slice none 0 0], .int .i64 er]) (res_cell30 results17 _ _ b2 30 _ _ rfl (setRow_heap _ b2 _ _ 30 (0, 0) (HZ4.out.drewN 1)) Tryz.underlying30 rfl (by kernel_rfl)) rfl ?_
    have q1 := HLT.out
    exact DI.mk_ (x := 0) (y := 0) ((HS4.out.drewN 1).fr_ (fr_setRow _ b2 _) (by omega) (by omega) (by omega)) (dec_fr (F4.out.drewN 1) (fr_setRow _ b2 _) ⟨q1.2.1, q1.2.2⟩ trivial) HX.out.2.2 (.inr ⟨he, rfl, HX.out.2.1⟩)
end
end Go.Proofs.YtggfaalodojjkaaGreatDoor
/-
  instr: Decode of no cursor.
-/
namespace Go.Proofs.YtggfaalodojjkaaGreatDoor
open Go.RowKit
set_option linter.unusedVariables false
set_option linter.unusedSimpArgs false
theorem has_nil (w : World) : Calls Tryz.prog 144 #[.pointer none, .int .i64 1] w fun e w' => e = .returned (.int .i64 12) ∧ w = w' := by
  go_enter Tryz.func144, Tryz.ntmps144
  go_wp2
  go_ret
  exact ⟨rfl, rfl⟩
theorem take_nil (w : World) : Calls Tryz.prog 125 #[.pointer none, .int .i64 1] w fun e w' => e = .returned (.tuple #[.slice none 0 0, .int .i64 12]) ∧ w = w' := by
  have H := Lib.hid (has_nil w)
  go_enter Tryz.func125, Tryz.ntmps125
  go_wp2_with (go_at_call 144; refine H.out.mono ?_; rintro e w1 ⟨rfl, rfl⟩)
  go_ret2
  exact ⟨rfl, rfl⟩
theorem byte_nil (w : World) : Calls Tryz.prog 97 #[.pointer none] w fun e w' => e = .returned (.tuple #[.int .u8 0, .int .i64 12]) ∧ w = w' := by
  have H := Lib.hid (take_nil w)
  go_enter Tryz.func97, Tryz.ntmps97
  go_wp2_with (go_at_call 125; refine H.out.mono ?_; rintro e w1 ⟨rfl, rfl⟩)
  go_ret2
  exact ⟨rfl, rfl⟩
theorem at_nil (w : World) : Calls Tryz.prog 24 #[.pointer none] w fun e w' => e = .returned (.int .i64 0) ∧ w = w' := by
  go_enter Tryz.func24, Tryz.ntmps24
  go_wp2
  go_ret
  exact ⟨rfl, rfl⟩
theorem go_nil (w : World) (n : Int) : Calls Tryz.prog 22 #[.pointer none, .int .i64 n] w fun e w' => e = .returned (.int .i64 12) ∧ w = w' := by
  go_enter Tryz.func22, Tryz.ntmps22
  go_wp2
  go_ret
  exact ⟨rfl, rfl⟩
section
variable {w w' : World} {R : Nat}
/-- a reader of no cursor -/
def NR (w : World) (R : Nat) (er : Nat) : Prop := Blk w R 89 #[.pointer none, .int .i64 ((er : Nat) : Int)]
theorem meet_nil (h : NR w R 0) : Calls Tryz.prog 99 #[.pointer (some ⟨R, 0, none⟩), .int .i64 12] w fun x w' => x = .returned (.tuple #[]) ∧ NR w' R 12 ∧ Fr (fun q => q = R) w w' := by
  have c1 : w.cell? ⟨R, 1, none⟩ = some (.int .i64 0) := h.cell 1
  have z1 : w.frozen? ⟨R, 1, none⟩ = false := h.frozen 1
  have HE : Hid (NR (w.setCell ⟨R, 1, none⟩ (.int .i64 12)) R 12) := Lib.hid (h.set_ 1 _)
  clear h
  go_enter Tryz.func99, Tryz.ntmps99
  go_wp2
  go_end0
  exact ⟨rfl, HE.out, (Fr.refl (fun q => q = R) w).set_ (p := ⟨R, 1, none⟩) rfl _⟩
theorem meet_12 (h : NR w R 12) (e : Nat) : Calls Tryz.prog 99 #[.pointer (some ⟨R, 0, none⟩), .int .i64 e] w fun x w' => x = .returned (.tuple #[]) ∧ w = w' := by
  have c1 : w.cell? ⟨R, 1, none⟩ = some (.int .i64 12) := h.cell 1
  clear h
  go_enter Tryz.func99, Tryz.ntmps99
  go_wp2
  go_end0
  exact ⟨rfl, rfl⟩
set_option maxRecDepth 100000 in
theorem next_nil (h : NR w R 0) : Calls Tryz.prog 96 #[.pointer (some ⟨R, 0, none⟩), .func (.func 97) #[.pointer none] #[]] w (fun e w' => e = .returned (.int .u8 0) ∧ NR w' R 12 ∧ Fr (fun q => q = R) w w') := by
  have c1 : w.cell? ⟨R, 1, none⟩ = some (.int .i64 0) := h.cell 1
  have HB := Lib.hid (byte_nil w)
  have HM := Lib.hid (meet_nil h)
  clear h
  go_enter Tryz.func96, Tryz.ntmps96
  go_wp2_with (first
    | (go_at_call 97; refine HB.out.mono ?_; rintro e w1 ⟨rfl, rfl⟩)
    | (go_at_call 99; refine HM.out.mono ?_; rintro e w2 ⟨rfl, hs, hf⟩; have H2 := Lib.hid hs; have HF2 := Lib.hid hf; clear hs hf))
  go_ret
  exact ⟨rfl, H2.out, HF2.out⟩
theorem first0 : ∀ r ∈ RW, r.first = 0 → r.form = 0 := by
  have h : (RW.all fun r => !(decide (r.first = 0)) || decide (r.form = 0)) = true := by kernel_rfl
  intro r hr h0
  have := List.all_eq_true.1 h r hr
  simpa [h0] using this
theorem find_0 (W : World) (hT : Tb W) : Calls Tryz.prog 53 #[.int .i64 0] W fun e w' => ∃ (cd : Int) (nm : ByteArray) (At : Option Addr) (nt ct : Nat) (Ag : Option Addr) (ng cg : Nat) (ok : Bool),
    e = .returned (.tuple #[.agg #[.int .i64 cd, .string nm, .int .i64 0, .slice At nt ct, .slice Ag ng cg], .bool ok]) ∧ nt ≤ ct ∧ ct ≤ 9223372036854775807 ∧ ng ≤ cg ∧ cg ≤ 9223372036854775807 ∧ Below W.heap.size W w' := by
  rcases Find_case 0 (by decide) with ⟨r, i, ho, h⟩ | ⟨_, h⟩
  · refine (h W hT).mono ?_
    rintro e w' ⟨At, ct, Ag, cg, rfl, h1, h2, hb⟩
    have hI : InfAt w' W.heap.size r i At ct Ag cg := ⟨h1, h2⟩
    obtain ⟨q1, q2, q3, q4⟩ := hI.len
    have hf : r.form = 0 := first0 r (mem_OPS.1 ho.1).1 (by have := ho.2; omega)
    rw [hf]
    exact ⟨_, _, At, _, ct, Ag, _, cg, true, rfl, q1, q2, q3, q4, hb⟩
  · refine (h W hT).mono ?_
    rintro e w' ⟨rfl, hb⟩
    exact ⟨_, _, _, _, _, _, _, _, false, rfl, Nat.le_refl _, by omega, Nat.le_refl _, by omega, hb⟩
/-- what a step of a reader of no cursor leaves -/
structure NS (w w' : World) (R b2 : Nat) (t : TypeId) (cs : Array Value) : Prop where
  rd : NR w' R 12
  z : Blk w' b2 t cs
  fr_ : Fr (fun q => q = R) w w'
  lt : R < b2 ∧ b2 = w.heap.size
theorem NS.below {V V' : World} {b2 t : Nat} {cs : Array Value} (h : NS w V R b2 t cs) (hb : Below V.heap.size V V') : NS w V' R b2 t cs :=
  ⟨h.rd.below hb h.rd.lt, h.z.below hb h.z.lt, h.fr_.trans (Fr.of_below hb), h.lt⟩
set_option maxHeartbeats 4000000 in
set_option maxRecDepth 100000 in
theorem op_nil (h : NR w R 0) (hT : Tb w) (hTab : Tab w 1 13 2 forL) (h2 : 2 ≤ R) : Calls Tryz.prog 68 #[.pointer (some ⟨R, 0, none⟩)] w (fun e w' => ∃ (cd : Int) (nm : ByteArray) (At : Option Addr) (nt ct : Nat) (Ag : Option Addr) (ng cg : Nat), e = .returned (.agg #[.int .i64 cd, .string nm, .int .i64 0, .slice At nt ct, .slice Ag ng cg]) ∧ NR w' R 12 ∧ Fr (fun q => q = R) w w') := by
  obtain ⟨W0, hW0⟩ : ∃ V, V = w.alloc (.cells #[.int .i64 0, .string ⟨#[]⟩, .int .i64 0, .slice none 0 0, .slice none 0 0] 61) := ⟨_, rfl⟩
  obtain ⟨b2, hb2⟩ : ∃ x, x = w.heap.size := ⟨_, rfl⟩
  have hf0 : Fr (fun _ => False) w W0 := by rw [hW0]; exact (Fr.refl _ w).alloc _
  have hZ0 : Blk W0 b2 61 #[.int .i64 0, .string ⟨#[]⟩, .int .i64 0, .slice none 0 0, .slice none 0 0] := by rw [hW0, hb2]; exact Blk.new w 61 _
  have hR0 : NR W0 R 0 := h.fr hf0 (fun q => q)
  have hlt : R < b2 := by rw [hb2]; exact h.lt
  have HN1 := Lib.hid (next_nil hR0)
  have HS1 : Hid (∀ w1, NR w1 R 12 → Fr (fun q => q = R) W0 w1 → NS w w1 R b2 61 #[.int .i64 0, .string ⟨#[]⟩, .int .i64 0, .slice none 0 0, .slice none 0 0] ∧ Tb w1 ∧ Tab w1 1 13 2 forL) := Lib.hid (fun w1 q1 q2 =>
    have hf := (hf0.more (fun q e => e.elim)).trans q2
    ⟨⟨q1, hZ0.fr q2 (by omega), hf, hlt, hb2⟩, tb_fr hT hf (by omega), tab_fr hTab hf (by omega)⟩)
  have c0 : W0.cell? ⟨R, 0, none⟩ = some (.pointer none) := hR0.cell 0
  have HW := Lib.hid hW0
  have HB := Lib.hid hb2
  clear h hT hTab hW0 hb2 hf0 hZ0 hR0 hlt
  go_enter Tryz.func68, Tryz.ntmps68
  go_upto_region 1 with fail
  rw [← HW.out, ← HB.out]
  go_upto_region 4 with (go_at_call 96; refine HN1.out.mono ?_; rintro e w1 ⟨rfl, q2, q3⟩; have H1 := Lib.hid (HS1.out w1 q2 q3).1; have T1 := Lib.hid (HS1.out w1 q2 q3).2; clear q2 q3 c0)
  have HFo := Lib.hid (Foreign_any 0 (by decide) w1 T1.out.2)
  rw [show decide (ForP 0) = false from by decide] at HFo
  go_upto_region 6 with (go_at_call 98; refine HFo.out.mono ?_; rintro e w3 ⟨rfl, q⟩; have H3 := Lib.hid (H1.out.below q); have T3 := Lib.hid (T1.out.1.below q T1.out.1.size); clear q)
  have HFi := Lib.hid (find_0 w3 T3.out)
  go_upto_region 7 with (go_at_call 53; refine HFi.out.mono ?_; rintro e w5 ⟨cd, nm, At, nt, ct, Ag, ng, cg, ok, rfl, k1, k2, k3, k4, kb⟩; have H5 := Lib.hid (H3.out.below kb); clear kb)
  obtain ⟨W6, hW6⟩ : ∃ V, V = w5.alloc (.cells #[.int .i64 cd, .string nm, .int .i64 0, .slice At nt ct, .slice Ag ng cg] 61) := ⟨_, rfl⟩
  obtain ⟨b4, hb4⟩ : ∃ x, x = w5.heap.size := ⟨_, rfl⟩
  have h56 : Below w5.heap.size w5 W6 := by rw [hW6]; exact (Below.refl _ _).alloc (Nat.le_refl _) _
  have hI : Blk W6 b4 61 #[.int .i64 cd, .string nm, .int .i64 0, .slice At nt ct, .slice Ag ng cg] := by rw [hW6, hb4]; exact Blk.new w5 61 _
  rw [← hb4, ← hW6]
  have H6 := Lib.hid (H5.out.below h56)
  have HM := Lib.hid (meet_12 H6.out.rd 4)
  have z0 : W6.cell? ⟨b4, 0, none⟩ = some (.int .i64 cd) := hI.cell 0
  have z1 : W6.cell? ⟨b4, 1, none⟩ = some (.string nm) := hI.cell 1
  have z2 : W6.cell? ⟨b4, 2, none⟩ = some (.int .i64 0) := hI.cell 2
  have z3 : W6.cell? ⟨b4, 3, none⟩ = some (.slice At nt ct) := hI.cell 3
  have z4 : W6.cell? ⟨b4, 4, none⟩ = some (.slice Ag ng cg) := hI.cell 4
  clear h56 hI hW6 hb4
  have hfin : Hid (NR (W6.setRow b2 #[.int .i64 cd, .string nm, .int .i64 0, .slice At nt ct, .slice Ag ng cg]) R 12 ∧ Fr (fun q => q = R) w (W6.setRow b2 #[.int .i64 cd, .string nm, .int .i64 0, .slice At nt ct, .slice Ag ng cg])) := Lib.hid (by
    have hl := H6.out.lt
    exact ⟨H6.out.rd.fr (fr_setRow W6 b2 _) (by omega), H6.out.fr_.trans_new (fr_setRow W6 b2 _) (fun i e => .inr (by omega))⟩)
  cases ok
  all_goals
    go_upto_region 9 with (go_at_call 99; refine HM.out.mono ?_; rintro e w7 ⟨rfl, rfl⟩)
    go_wp2_with (refine wpList_store61 rfl (.tmp 2) (.tmp 33) rfl b2 _ cd 0 nm At Ag nt ct ng cg rfl rfl H6.out.z (Lib.hid rfl) ?_)
    refine bodyPost_ret (v := .agg #[.int .i64 cd, .string nm, .int .i64 0, .slice At nt ct, .slice Ag ng cg]) (results_cell_row results68 _ _ b2 61 _ (0, 0) _ rfl (setRow_heap _ b2 _ _ 61 (0, 0) H6.out.z) Tryz.underlying61 rfl (by kernel_rfl)) rfl ?_
    exact ⟨cd, nm, At, nt, ct, Ag, ng, cg, rfl, hfin.out.1, hfin.out.2⟩
end
end Go.Proofs.YtggfaalodojjkaaGreatDoor
/-
  instr: Decode of no cursor: the end.
-/
namespace Go.Proofs.YtggfaalodojjkaaGreatDoor
open Go.RowKit
set_option linter.unusedVariables false
set_option linter.unusedSimpArgs false
section
variable {w w' : World} {R : Nat}
set_option maxHeartbeats 4000000 in
set_option maxRecDepth 100000 in
theorem instr_nil (h : NR w R 0) (hT : Tb w) (hTab : Tab w 1 13 2 forL) (h2 : 2 ≤ R) : Calls Tryz.prog 41 #[.pointer (some ⟨R, 0, none⟩)] w (fun e w' => ∃ (cd : Int), e = .returned (.agg #[.int .i64 cd, .int .u64 0, .int .u64 0, .int .i64 0, .slice none 0 0]) ∧ NR w' R 12 ∧ Fr (fun q => q = R) w w') := by
  obtain ⟨W0, hW0⟩ : ∃ V, V = w.alloc (.cells #[.int .i64 0, .int .u64 0, .int .u64 0, .int .i64 0, .slice none 0 0] 30) := ⟨_, rfl⟩
  obtain ⟨b2, hb2⟩ : ∃ x, x = w.heap.size := ⟨_, rfl⟩
  have hf0 : Fr (fun _ => False) w W0 := by rw [hW0]; exact (Fr.refl _ w).alloc _
  have hZ0 : Blk W0 b2 30 #[.int .i64 0, .int .u64 0, .int .u64 0, .int .i64 0, .slice none 0 0] := by rw [hW0, hb2]; exact Blk.new w 30 _
  have hR0 : NR W0 R 0 := h.fr hf0 (fun q => q)
  have hlt : R < b2 := by rw [hb2]; exact h.lt
  have HOp := Lib.hid (op_nil hR0 (tb_fr hT hf0 (fun q => q)) (tab_fr hTab hf0 (fun q => q)) h2)
  have HS1 : Hid (∀ w1, NR w1 R 12 → Fr (fun q => q = R) W0 w1 → NS w w1 R b2 30 #[.int .i64 0, .int .u64 0, .int .u64 0, .int .i64 0, .slice none 0 0]) := Lib.hid (fun w1 q1 q2 =>
    ⟨q1, hZ0.fr q2 (by omega), (hf0.more (fun q e => e.elim)).trans q2, hlt, hb2⟩)
  have HW := Lib.hid hW0
  have HB := Lib.hid hb2
  clear h hT hTab hW0 hb2 hf0 hZ0 hR0 hlt
  go_enter Tryz.func41, Tryz.ntmps41
  go_upto_region 1 with fail
  rw [← HW.out, ← HB.out]
  go_upto_region 2 with (go_at_call 68; refine HOp.out.mono ?_; rintro e w1 ⟨cd, nm, At, nt, ct, Ag, ng, cg, rfl, q2, q3⟩; have HS := Lib.hid (HS1.out w1 q2 q3); clear q2 q3)
  go_upto_region 3 with fail
  obtain ⟨W6, hW6⟩ : ∃ V, V = (w1.alloc (.cells #[.int .i64 cd, .string nm, .int .i64 0, .slice At nt ct, .slice Ag ng cg] 61)).alloc (.cells #[.int .i64 cd, .int .u64 0, .int .u64 0, .int .i64 0, .slice none 0 0] 30) := ⟨_, rfl⟩
  obtain ⟨b4, hb4⟩ : ∃ x, x = w1.heap.size + 1 := ⟨_, rfl⟩
  obtain ⟨b3, hb3⟩ : ∃ x, x = w1.heap.size := ⟨_, rfl⟩
  have hI : Blk W6 b3 61 #[.int .i64 cd, .string nm, .int .i64 0, .slice At nt ct, .slice Ag ng cg] := by rw [hW6, hb3]; exact (Blk.new w1 61 _).alloc _
  have hX : Blk W6 b4 30 #[.int .i64 cd, .int .u64 0, .int .u64 0, .int .i64 0, .slice none 0 0] := by rw [hW6, hb4]; exact heap2 w1 _ _
  have hB6 : Below w1.heap.size w1 W6 := by rw [hW6]; exact ((Below.refl _ _).alloc (Nat.le_refl _) _).alloc (by simp) _
  have H6 := Lib.hid (HS.out.below hB6)
  first | rw [← hb4] | skip
  first | rw [← hb3] | skip
  first | rw [← hW6] | skip
  have i2 : W6.cell? ⟨b3, 2, none⟩ = some (.int .i64 0) := hI.cell 2
  have x0 : W6.cell? ⟨b4, 0, none⟩ = some (.int .i64 cd) := hX.cell 0
  have x1 : W6.cell? ⟨b4, 1, none⟩ = some (.int .u64 0) := hX.cell 1
  have x2 : W6.cell? ⟨b4, 2, none⟩ = some (.int .u64 0) := hX.cell 2
  have x3 : W6.cell? ⟨b4, 3, none⟩ = some (.int .i64 0) := hX.cell 3
  have x4 : W6.cell? ⟨b4, 4, none⟩ = some (.slice none 0 0) := hX.cell 4
  clear hI hX hB6 hW6 hb4 hb3
  have hfin : Hid (NR (W6.setRow b2 #[.int .i64 cd, .int .u64 0, .int .u64 0, .int .i64 0, .slice none 0 0]) R 12 ∧ Fr (fun q => q = R) w (W6.setRow b2 #[.int .i64 cd, .int .u64 0, .int .u64 0, .int .i64 0, .slice none 0 0])) := Lib.hid (by
    have hl := H6.out.lt
    exact ⟨H6.out.rd.fr (fr_setRow W6 b2 _) (by omega), H6.out.fr_.trans_new (fr_setRow W6 b2 _) (fun i e => .inr (by omega))⟩)
  go_upto_region 19 with fail
  go_wp2_with (refine wpList_store_row rfl 30 (.tmp 2) (.tmp 57) rfl b2 #[.int .i64 cd, .int .u64 0, .int .u64 0, .int .i64 0, .slice none 0 0] rfl rfl 30 #[.int .i64 0, .int .u64 0, .int .u64 0, .int .i64 0, .slice none 0 0] H6.out.z (by kernel_rfl) rfl (by simp [Value.oneCell']) ?_)
  refine bodyPost_ret (v := .agg #[.int .i64 cd, .int .u64 0, .int .u64 0, .int .i64 0, .slice none 0 0]) (results_cell_row results41 _ _ b2 30 _ (0, 0) _ rfl (setRow_heap _ b2 _ _ 30 (0, 0) H6.out.z) Tryz.underlying30 rfl (by kernel_rfl)) rfl ?_
  exact ⟨cd, rfl, hfin.out.1, hfin.out.2⟩
/-- what Decode of no cursor answers -/
def DN (w : World) (e : Ending) (w' : World) : Prop := e = .returned (.tuple #[.agg #[.int .i64 0, .int .u64 0, .int .u64 0, .int .i64 0, .slice none 0 0], .int .i64 12]) ∧ Below w.heap.size w w'
set_option maxHeartbeats 4000000 in
set_option maxRecDepth 100000 in
theorem Decode_nil (hT : Tb w) (hTab : Tab w 1 13 2 forL) : Calls Tryz.prog 17 #[.pointer none] w (DN w) := by
  obtain ⟨W0, hW0⟩ : ∃ V, V = w.alloc (.cells #[.int .i64 0, .int .u64 0, .int .u64 0, .int .i64 0, .slice none 0 0] 30) := ⟨_, rfl⟩
  obtain ⟨b2, hb2⟩ : ∃ x, x = w.heap.size := ⟨_, rfl⟩
  obtain ⟨W1, hW1⟩ : ∃ V, V = W0.alloc (.cells #[.pointer none, .int .i64 0] 89) := ⟨_, rfl⟩
  obtain ⟨R, hR⟩ : ∃ x, x = w.heap.size + 1 := ⟨_, rfl⟩
  have hf0 : Fr (fun _ => False) w W0 := by rw [hW0]; exact (Fr.refl _ w).alloc _
  have hf1 : Fr (fun _ => False) w W1 := by rw [hW1]; exact hf0.alloc _
  have hs0 : W0.heap.size = R := by rw [hW0, hR]; simp
  have hZ1 : Blk W1 b2 30 #[.int .i64 0, .int .u64 0, .int .u64 0, .int .i64 0, .slice none 0 0] := by rw [hW1, hW0, hb2]; exact (Blk.new w 30 _).alloc _
  have hR1 : NR W1 R 0 := by rw [hW1, ← hs0]; exact Blk.new W0 89 _
  have hs := hT.size
  have HAt := Lib.hid (at_nil W0)
  have HIn := Lib.hid (instr_nil hR1 (tb_fr hT hf1 (fun q => q)) (tab_fr hTab hf1 (fun q => q)) (by omega))
  have HZ := Lib.hid (fun w1 (q : Fr (fun q => q = R) W1 w1) => hZ1.fr q (by omega))
  have HLT := Lib.hid (And.intro (show b2 + 1 = R by omega) hb2)
  have HF1 := Lib.hid hf1
  have HW0 := Lib.hid hW0
  have HW1 := Lib.hid hW1
  have HB := Lib.hid hb2
  have HS0 := Lib.hid hs0
  clear hT hTab hW0 hb2 hW1 hR hf0 hf1 hs0 hZ1 hR1 hs
  go_enter Tryz.func17, Tryz.ntmps17
  go_upto_region 1 with fail
  rw [← HW0.out, ← HB.out]
  go_upto_region 2 with (go_at_call 24; refine HAt.out.mono ?_; rintro e w1 ⟨rfl, rfl⟩)
  go_upto_region 3 with fail
  first | rw [HS0.out] | skip
  rw [← HW1.out]
  go_upto_region 4 with (go_at_call 41; refine HIn.out.mono ?_; rintro e w2 ⟨cd, rfl, q1, q2⟩; have H2 := Lib.hid q1; have F2 := Lib.hid q2; clear q1 q2)
  obtain ⟨W3, hW3⟩ : ∃ V, V = w2.alloc (.cells #[.int .i64 cd, .int .u64 0, .int .u64 0, .int .i64 0, .slice none 0 0] 30) := ⟨_, rfl⟩
  have hf3 : Fr (fun _ => False) w2 W3 := by rw [hW3]; exact (Fr.refl _ w2).alloc _
  have hZ3 := (HZ.out w2 F2.out).fr hf3 (fun q => q)
  rw [← hW3]
  have hR3 : NR W3 R 12 := H2.out.fr hf3 (fun q => q)
  have e1 : W3.cell? ⟨R, 1, none⟩ = some (.int .i64 12) := hR3.cell 1
  have HZ4 := Lib.hid hZ3
  have F3 := Lib.hid ((HF1.out.more (fun q e => e.elim)).trans (F2.out.trans (hf3.more (fun q e => e.elim))))
  have HG := Lib.hid (go_nil W3 0)
  have hR3l := hR3.lt
  clear hf3 hZ3 hW3 hR3 HAt HIn HZ H2 F2
  go_upto_region 6 with (go_at_call 22; refine HG.out.mono ?_; rintro e w5 ⟨rfl, rfl⟩)
  have e4 := e1
  have KH : Hid ((W3.drew.setRow b2 #[.int .i64 0, .int .u64 0, .int .u64 0, .int .i64 0, .slice none 0 0]).cell? ⟨R, 1, none⟩ = some (.int .i64 12)) := Lib.hid (by
    have hb := (fr_setRow W3.drew b2 #[.int .i64 0, .int .u64 0, .int .u64 0, .int .i64 0, .slice none 0 0])
    have h9 := HLT.out
    have := hb.block R hR3l (by omega)
    simp only [World.cell?] at e4 ⊢
    rw [this]
    exact e4)
  clear e1
  refine wp_region_held_drew (S := (fun W => W.cell? ⟨R, 1, none⟩ = some (.int .i64 12))) (by kernel_rfl) e4 (fun hHeld => ?_)
  refine wpAnyH_take (i := 0) (oi := ?oi_1) (v := ?_) ?hi_1 (by kernel_rfl) ?hf_1 (by kernel_rfl) ?hQ_1 ?hy_1 (by assumption) ?_
  case hi_1 => simp only [List.getElem?_toArray, List.getElem?_cons_zero, List.getElem?_cons_succ] <;> rfl
  case hf_1 => kernel_rfl
  case hQ_1 => exact fun _ _ _ h => h
  case hy_1 =>
    refine Or.inl ⟨by rfl, ?_⟩
    intro W hSw
    have hq0 := hSw
    go_simp
    try with_reducible rfl
  try simp only [Act.put, List.setIfInBounds_toArray, List.set_cons_zero, List.set_cons_succ]
  refine wpAnyH_take (i := 1) (oi := ?oi_2) (v := ?_) ?hi_2 (by kernel_rfl) ?hf_2 (by kernel_rfl) ?hQ_2 ?hy_2 (by assumption) ?_
  case hi_2 => simp only [List.getElem?_toArray, List.getElem?_cons_zero, List.getElem?_cons_succ] <;> rfl
  case hf_2 => kernel_rfl
  case hQ_2 => exact fun _ _ _ h => h
  case hy_2 =>
    refine Or.inl ⟨by rfl, ?_⟩
    intro W hSw
    have hq0 := hSw
    go_simp
    try with_reducible rfl
  try simp only [Act.put, List.setIfInBounds_toArray, List.set_cons_zero, List.set_cons_succ]
  refine wpAnyH_take (i := 2) (oi := ?oi_3) (v := ?_) ?hi_3 (by kernel_rfl) ?hf_3 (by kernel_rfl) ?hQ_3 ?hy_3 (by assumption) ?_
  case hi_3 => simp only [List.getElem?_toArray, List.getElem?_cons_zero, List.getElem?_cons_succ] <;> rfl
  case hf_3 => kernel_rfl
  case hQ_3 => exact fun _ _ _ h => h
  case hy_3 =>
    refine Or.inl ⟨by rfl, ?_⟩
    intro W hSw
    have hq0 := hSw
    go_simp
    try with_reducible rfl
  try simp only [Act.put, List.setIfInBounds_toArray, List.set_cons_zero, List.set_cons_succ]
  refine wpAnyH_ready (rs := [3]) (by kernel_rfl) (by simp) ?_
  refine AllReadyH.cons (o := ?oi_4) ?hi_4 (fun K hK => ?_) AllReadyH.nil
  case hi_4 => simp only [List.getElem?_toArray, List.getElem?_cons_zero, List.getElem?_cons_succ] <;> rfl
  refine step_store_row rfl 30 (.tmp 2) (.tmp 18) rfl b2 #[.int .i64 0, .int .u64 0, .int .u64 0, .int .i64 0, .slice none 0 0] rfl rfl 30 #[.int .i64 0, .int .u64 0, .int .u64 0, .int .i64 0, .slice none 0 0] (HZ4.out.drewN 1) (by kernel_rfl) rfl (by simp [Value.oneCell']) ?_
  refine hK.out _ _ KH.out (fun hHeld => ?_)
  clear hK K
  try simp only [Act.put, List.setIfInBounds_toArray, List.set_cons_zero, List.set_cons_succ]
  refine wpAnyH_take (i := 4) (oi := ?oi_5) (v := ?_) ?hi_5 (by kernel_rfl) ?hf_5 (by kernel_rfl) ?hQ_5 ?hy_5 (by assumption) ?_
  case hi_5 => simp only [List.getElem?_toArray, List.getElem?_cons_zero, List.getElem?_cons_succ] <;> rfl
  case hf_5 => kernel_rfl
  case hQ_5 => exact fun _ _ _ h => h
  case hy_5 =>
    refine Or.inl ⟨by rfl, ?_⟩
    intro W hSw
    have hq0 := hSw
    go_simp
    try with_reducible rfl
  try simp only [Act.put, List.setIfInBounds_toArray, List.set_cons_zero, List.set_cons_succ]
  refine wpAnyH_done (by kernel_rfl) ?_ _
  clear hHeld
  simp only [Exit.inBlock, Exit.then]
  go_wp2
  refine bodyPost_ret (v := .tuple #[.agg #[.int .i64 0, .int .u64 0, .int .u64 0, .int .i64 0, .slice none 0 0], .int .i64 12]) (res_cell30 results17 _ _ b2 30 _ _ rfl (setRow_heap _ b2 _ _ 30 (0, 0) (HZ4.out.drewN 1)) Tryz.underlying30 rfl (by kernel_rfl)) rfl ?_
  have q1 := HLT.out
  refine ⟨rfl, ?_⟩
  have hF := (F3.out.drewN 1)
  have h2 : Below w.heap.size w (W3.drewN 1) := hF.below (Below.refl _ _) (Nat.le_refl _) (fun k e => by omega)
  exact below_setRow h2 (by omega) _
end
end Go.Proofs.YtggfaalodojjkaaGreatDoor
/-
  InstrFails: the law.
-/
namespace Go.Proofs.YtggfaalodojjkaaGreatDoor
open Go.RowKit
set_option linter.unusedVariables false
set_option linter.unusedSimpArgs false
theorem St.alloc_ {w : World} {f g c N r fr t a : Nat} {l : List Nat} {fa : Int} (h : St w f g c N l r fa fr t a) (o : Obj) : St (w.alloc o) f g c N l r fa fr t a :=
  h.fr_ (S := fun _ => False) ((Fr.refl _ w).alloc o) (fun q => q) (fun q => q) (fun q => q)
theorem St.below {w w' : World} {f g c N r fr t a : Nat} {l : List Nat} {fa : Int} (h : St w f g c N l r fa fr t a) (hb : Below w.heap.size w w') : St w' f g c N l r fa fr t a :=
  h.fr_ (S := fun _ => False) (Fr.of_below hb) (fun q => q) (fun q => q) (fun q => q)
set_option maxHeartbeats 8000000 in
set_option maxRecDepth 100000 in
theorem fails_walk (A : Option Addr) (n cap : Nat) (l : List Nat) (fl : Int) (hfl : 0 ≤ fl ∧ fl ≤ 255) (w : World) (hb : Byt w A n cap l) (hL : Lw w) (hTab : Tab w 1 13 2 forL) : Calls Tryz.prog 6 #[.slice A n cap, .int .u8 fl] w fun e w' => e = .returned (.bool true) ∧ Below w.heap.size w w' := by
  have HA := Lib.hid (awake_any w hL)
  have hnc := hb.2.2.1
  have hcm := hb.2.2.2.1
  unfold maxLen at hcm
  by_cases hn : 200 < n
  · clear hL hTab hb
    go_enter Tryz.func6, Tryz.ntmps6
    go_wp2_with (go_at_call 8; (with_reducible refine HA.out.mono ?_); rintro e w1 ⟨rfl, hb1⟩; have HB1 := Lib.hid hb1; clear hb1)
    go_ret
    exact ⟨rfl, HB1.out⟩
  · have hn2 : n ≤ 200 := by omega
    have hx : ∀ z ∈ l, z < 256 := hb.2.1
    have hbz := hTab.lt
    have HX := Lib.hid hx
    have HL := Lib.hid hL
    have HTab := Lib.hid hTab
    have HB := Lib.hid hb
    have HT : Hid (∀ V, Below w.heap.size w V → Tb V ∧ Tab V 1 13 2 forL) := Lib.hid (fun V hV => ⟨hL.tb.1.below hV hL.tb.2, hTab.below hV hbz⟩)
    clear hL hTab hb hx
    go_enter Tryz.func6, Tryz.ntmps6
    go_upto_region 3 with (go_at_call 8; (with_reducible refine HA.out.mono ?_); rintro e w1 ⟨rfl, hb1⟩; have HB1 := Lib.hid hb1; have HN := Lib.hid (New_any A n cap l w1 (HB.out.kept hb1) (by omega)); clear hb1)
    go_upto_region 4 with (go_at_call 15; (with_reducible refine HN.out.mono ?_); rintro e w2 ⟨f, g, rfl, k1, k2, k3, k4⟩; have HF2 := Lib.hid k1; have HB2 := Lib.hid (HB1.out.trans (k2.mono HB1.out.size)); have hfg : w.heap.size ≤ f ∧ w.heap.size ≤ g := ⟨Nat.le_trans HB1.out.size k3, Nat.le_trans HB1.out.size k4⟩; clear k1 k2 k3 k4)
    have HFa := Lib.hid (FailAt_any w2 f g n l 0 (-1) fl HF2.out)
    go_upto_region 5 with (go_at_call 27; (with_reducible refine HFa.out.mono ?_); rintro e w3 ⟨rfl, k1, k2⟩; have HF3 := Lib.hid k1; have HB3 := Lib.hid (k2.below HB2.out HB2.out.size (fun k e => by omega)); clear k1 k2)
    have HCu := Lib.hid (Cursor_ok w3 f g n l 0 fl 0 n HF3.out (by omega) (by omega))
    go_upto_region 6 with (go_at_call 16; (refine HCu.out.mono ?_); rintro e w4 ⟨c, rfl, k1, k2, k3⟩; have HS4 := Lib.hid k1; have HB4 := Lib.hid (HB3.out.trans (k3.mono HB3.out.size)); have hc : w.heap.size ≤ c := Nat.le_trans HB3.out.size k2; clear k1 k2 k3)
    clear HA HN HFa HCu HF2 HF3 HB1 HB2 HB3 HB
    go_wp2_with fail
    go_loopw [9] (fun v9 wr => ∃ k r a : Nat, k ≤ a ∧ a ≤ n ∧ (r : Int) ≤ fl ∧ v9 = .int .i64 k ∧ Hid (St wr f g c n l r fl 0 n a) ∧ Hid (Below w.heap.size w wr)) (fun v9 _ => 220 - (intOf v9).toNat)
    case atStart => exact ⟨0, 0, 0, by omega, by omega, by omega, rfl, HS4, HB4⟩
    case round =>
      obtain ⟨k, r, a, hka, han, hrf, rfl, HS, HBw⟩ := hrel
      have hk : (k : Int) < 220 := by omega
      have HAt := Lib.hid (At_any wr c f 0 n a HS.out.cu)
      have HD := Lib.hid (Decode_i HS.out hrf hfl.1 (by omega) HX.out (HT.out wr HBw.out).1 (HT.out wr HBw.out).2 (by omega) (by omega))
      unfold DI at HD
      go_upto_region 11 with (first
        | (go_at_call 24; (with_reducible refine HAt.out.mono ?_); rintro e w5 ⟨rfl, rfl⟩)
        | (go_at_call 17; (with_reducible refine HD.out.mono ?_); rintro e w6 ⟨cd, x, y, al, A2, n2, cp2, er, r', a', rfl, k1, k2, hr3, hcase⟩
           have HS6 := Lib.hid k1
           have HB6 := Lib.hid (k2.below HBw.out HBw.out.size (fun k e => by rcases e with e | e <;> omega))
           clear k1 k2))
      have ha' := HS6.out.h2
      rcases hcase with ⟨rfl, q1, q2⟩ | ⟨q0, rfl, q9⟩
      · go_wp2_with (first
          | (go_at_call 24; refine (At_any _ c f 0 n a' (HS6.out.alloc_ _).cu).mono ?_; rintro e w7 ⟨rfl, rfl⟩)
          | (go_at_call 28; refine (Reads_any _ f g n l r' fl (HS6.out.alloc_ _).fl (by omega)).mono ?_; rintro e w8 ⟨rfl, rfl⟩))
        go_roundw
        case rel => exact ⟨k + 1, r', a', by omega, by omega, by omega, by go_num, Lib.hid (HS6.out.alloc_ _), Lib.hid (HB6.out.alloc HB6.out.size _)⟩
        case measure => simp [intOf]; omega
      · have hne : (((er : Nat) : Int) != 0) = true := by rw [bne_iff_ne]; omega
        have HNil : Hid (∀ o, Calls Tryz.prog 17 #[.pointer none] (w6.alloc o) (DN (w6.alloc o))) := Lib.hid (fun o => Decode_nil (HT.out _ (HB6.out.alloc HB6.out.size o)).1 (HT.out _ (HB6.out.alloc HB6.out.size o)).2)
        unfold DN at HNil
        by_cases h9 : er = 9
        · have hlt := q9 h9
          subst h9
          go_wp2_with (first
            | (go_at_call 17; (with_reducible refine (HNil.out _).mono ?_); rintro e w7 ⟨rfl, k1⟩; have HS7 := Lib.hid ((HS6.out.alloc_ _).below k1); have HB7 := Lib.hid ((HB6.out.alloc HB6.out.size _).trans (k1.mono (HB6.out.alloc HB6.out.size _).size)); clear k1)
            | (go_at_call 24; refine (At_any _ c f 0 n _ (HS7.out.alloc_ _).cu).mono ?_; rintro e w8 ⟨rfl, rfl⟩)
            | (go_at_call 28; refine (Reads_any _ f g n l r' fl (HS7.out.alloc_ _).fl (by omega)).mono ?_; rintro e w9 ⟨rfl, rfl⟩))
          go_ret
          exact ⟨rfl, HB7.out.alloc HB7.out.size _⟩
        · have hne9 : (((er : Nat) : Int) != 9) = true := by rw [bne_iff_ne]; omega
          go_wp2_with (first
            | (go_at_call 17; (with_reducible refine (HNil.out _).mono ?_); rintro e w7 ⟨rfl, k1⟩; have HS7 := Lib.hid ((HS6.out.alloc_ _).below k1); have HB7 := Lib.hid ((HB6.out.alloc HB6.out.size _).trans (k1.mono (HB6.out.alloc HB6.out.size _).size)); clear k1)
            | (go_at_call 24; refine (At_any _ c f 0 n _ (HS7.out.alloc_ _).cu).mono ?_; rintro e w8 ⟨rfl, rfl⟩)
            | (go_at_call 28; refine (Reads_any _ f g n l r' fl (HS7.out.alloc_ _).fl (by omega)).mono ?_; rintro e w9 ⟨rfl, rfl⟩))
          go_ret
          exact ⟨rfl, HB7.out.alloc HB7.out.size _⟩
end Go.Proofs.YtggfaalodojjkaaGreatDoor
