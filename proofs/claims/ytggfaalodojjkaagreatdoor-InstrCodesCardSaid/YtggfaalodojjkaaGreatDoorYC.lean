/-
  Texts of YtggfaalodojjkaaGreatDoorYC.
-/
import Derived.Test.YtggfaalodojjkaaGreatDoorYA
import Derived.Test.YtggfaalodojjkaaGreatDoorYB
namespace Go.Proofs.YtggfaalodojjkaaGreatDoor
open Go.RowKit
set_option linter.unusedVariables false
set_option linter.unusedSimpArgs false
theorem results41 : Tryz.f41.results = #[.cell 2 30] := by kernel_rfl
/-- what is read behind a code, by the form of its op -/
def armF (l : List Nat) (t : Nat) (fo : Int) (bt : Nat) (cd : Int) (a er : Nat) : In × Nat × Nat :=
  if fo = 0 then (⟨cd, 0, 0, 0, []⟩, a, er)
  else if fo = 1 then (⟨cd, ((btF l t a er).1 : Int), 0, 0, []⟩, (btF l t a er).2)
  else if fo = 3 then (⟨cd, ((nuF l t 32 (lbF l t a er).2.1 (lbF l t a er).2.2).1 : Int), 0, 0, (lbF l t a er).1.map fun n : Nat => (n : Int)⟩, (nuF l t 32 (lbF l t a er).2.1 (lbF l t a er).2.2).2)
  else if fo = 5 ∨ fo = 10 then (⟨cd, ((nuF l t 32 a er).1 : Int), ((nuF l t 32 (nuF l t 32 a er).2.1 (nuF l t 32 a er).2.2).1 : Int), 0, []⟩, (nuF l t 32 (nuF l t 32 a er).2.1 (nuF l t 32 a er).2.2).2)
  else if fo = 8 then (⟨cd, ((acF l t a er).1.2.1 : Int), ((acF l t a er).1.2.2 : Int), ((acF l t a er).1.1 : Int), []⟩, (acF l t a er).2)
  else if fo = 11 then (⟨cd, ((wdF l t bt a er).1 : Int), 0, 0, []⟩, (wdF l t bt a er).2)
  else (⟨cd, ((nuF l t 32 a er).1 : Int), 0, 0, []⟩, (nuF l t 32 a er).2)
section
variable {w w' V V' : World} {f g c N : Nat} {l : List Nat} {fr t R a er a' er' m m' b2 b4 : Nat} {cs : Array Value}
/-- an instruction that is being read -/
structure JS (w V : World) (f g c N : Nat) (l : List Nat) (fr t R a er m b2 b4 : Nat) (cs : Array Value) : Prop where
  ri : XI f g c N l fr t R a er m V
  z : Blk V b2 30 #[.int .i64 0, .int .u64 0, .int .u64 0, .int .i64 0, .slice none 0 0]
  x : Blk V b4 30 cs
  fr_ : Fr (FR f c R) w V
  lt : f < b2 ∧ g < b2 ∧ c < b2 ∧ R < b2 ∧ b2 < b4 ∧ b2 = w.heap.size
theorem JS.call (h : JS w V f g c N l fr t R a er m b2 b4 cs) (ri : XI f g c N l fr t R a' er' m' V') (hf : Fr (FR f c R) V V') : JS w V' f g c N l fr t R a' er' m' b2 b4 cs := by
  obtain ⟨h1, h2, h3, h4, h5⟩ := h
  exact ⟨ri, h2.fr hf (by rintro (e | e | e) <;> omega), h3.fr hf (by rintro (e | e | e) <;> omega), h4.trans hf, h5⟩
theorem JS.below (h : JS w V f g c N l fr t R a er m b2 b4 cs) (hb : Below V.heap.size V V') : JS w V' f g c N l fr t R a er m b2 b4 cs := h.call (h.ri.new (Fr.of_below hb)) (Fr.of_below hb)
theorem JS.set_ (h : JS w V f g c N l fr t R a er m b2 b4 cs) (i : Nat) (u : Value) : JS w (V.setCell ⟨b4, i, none⟩ u) f g c N l fr t R a er m b2 b4 (cs.setIfInBounds i u) := by
  obtain ⟨h1, h2, h3, h4, h5⟩ := h
  have hf : Fr (fun q => q = b4) V (V.setCell ⟨b4, i, none⟩ u) := (Fr.refl (fun q => q = b4) V).set_ (p := ⟨b4, i, none⟩) rfl _
  exact ⟨h1.fr_ hf (by omega) (by omega) (by omega) (by omega), h2.fr hf (by omega), h3.set_ i u, h4.trans_new hf (fun q e => .inr (by omega)), h5⟩
/-- what instr leaves, when it came to this -/
def IX (f g c N : Nat) (l : List Nat) (fr t R m : Nat) (G : In × Nat × Nat) (w : World) (e : Ending) (w' : World) : Prop :=
  ∃ (A : Option Addr) (cp : Nat), e = .returned (.agg #[.int .i64 G.1.cd, .int .u64 G.1.a, .int .u64 G.1.b, .int .i64 G.1.al, .slice A G.1.l.length cp]) ∧ w'.ownsRow w.heap.size 22 1 (.slice A G.1.l.length cp) G.1.l.length (G.1.l.map U64) ∧ XI f g c N l fr t R G.2.1 G.2.2 m w' ∧ Fr (FR f c R) w w'
/-- what instr leaves -/
def IPx (f g c N : Nat) (l : List Nat) (fr t R m : Nat) (C : Int × Nat × Nat) (w : World) (e : Ending) (w' : World) : Prop :=
  (∃ r i, OpAt C.1 r i ∧ IX f g c N l fr t R m (armF l t ((r.form : Nat) : Int) (btT (r.gives.getD 0 0)) C.1 C.2.1 (fgE C.1 C.2.2)) w e w') ∨ ((∀ r i, ¬ OpAt C.1 r i) ∧ IX f g c N l fr t R m (⟨0, 0, 0, 0, []⟩, C.2.1, mtE (fgE C.1 C.2.2) 4) w e w')
theorem JS.done {x : In} {A : Option Addr} {cp n B : Nat} (h : JS w V f g c N l fr t R a er m b2 b4 cs) (hm : m ≤ m') (hn : n = x.l.length) (ho : V.ownsRow B 22 1 (.slice A n cp) n (x.l.map U64)) (hB : b2 < B) :
    IX f g c N l fr t R m' (x, a, er) w (.returned (.agg #[.int .i64 x.cd, .int .u64 x.a, .int .u64 x.b, .int .i64 x.al, .slice A n cp])) (V.setRow b2 #[.int .i64 x.cd, .int .u64 x.a, .int .u64 x.b, .int .i64 x.al, .slice A n cp]) := by
  obtain ⟨h1, h2, h3, h4, h5⟩ := h
  subst hn
  exact ⟨A, cp, rfl, own_base (own_frB ho (fr_setRow V b2 _) (fun q hq e => by omega)) (by omega), (h1.more hm).fr_ (fr_setRow V b2 _) (by omega) (by omega) (by omega) (by omega), h4.trans_new (fr_setRow V b2 _) (fun i e => .inr (by omega))⟩
theorem map_nu (L : List Nat) : (L.map fun n : Nat => (n : Int)).map U64 = L.map NU := by rw [List.map_map]; rfl
set_option maxHeartbeats 8000000 in
set_option maxRecDepth 100000 in
theorem instr_x (h : XI f g c N l fr t R a er m w) (hm : m < 30000) (hx : ∀ z ∈ l, z < 256) (hE : Ev w f c R) (C : Int × Nat × Nat) (hC : cdF l t a er = C) : Calls Tryz.prog 41 #[.pointer (some ⟨R, 0, none⟩)] w (IPx f g c N l fr t R (m + 3000) C w) := by
  obtain ⟨W0, hW0⟩ : ∃ V, V = w.alloc (.cells #[.int .i64 0, .int .u64 0, .int .u64 0, .int .i64 0, .slice none 0 0] 30) := ⟨_, rfl⟩
  obtain ⟨b2, hb2⟩ : ∃ x, x = w.heap.size := ⟨_, rfl⟩
  have hf0 : Fr (fun _ => False) w W0 := by rw [hW0]; exact (Fr.refl _ w).alloc _
  have hZ0 : Blk W0 b2 30 #[.int .i64 0, .int .u64 0, .int .u64 0, .int .i64 0, .slice none 0 0] := by rw [hW0, hb2]; exact Blk.new w 30 _
  have hR0 := h.new hf0
  have hlt : f < b2 ∧ g < b2 ∧ c < b2 ∧ R < b2 := by rw [hb2]; exact h.lt
  have HOp := Lib.hid (op_x hR0 (by omega) hx (hE.fr_ (hf0.more (fun q e => e.elim))) C hC)
  have HS1 : Hid (∀ w1 a1 e1 m1, XI f g c N l fr t R a1 e1 m1 w1 → Fr (FR f c R) W0 w1 → ∀ (o3 : Array Value) (cs : Array Value), JS w ((w1.alloc (.cells o3 61)).alloc (.cells cs 30)) f g c N l fr t R a1 e1 m1 b2 (w1.heap.size + 1) cs) := Lib.hid (fun w1 a1 e1 m1 q1 q2 o3 cs => by
    have hs := q2.size
    have hz := hZ0.fr q2 (by rintro (e | e | e) <;> omega)
    have hz2 := hZ0.lt
    have hn : Fr (fun _ => False) w1 ((w1.alloc (.cells o3 61)).alloc (.cells cs 30)) := ((Fr.refl _ w1).alloc _).alloc _
    refine ⟨q1.new hn, (hz.alloc _).alloc _, heap2 w1 _ _, ((hf0.more (fun q e => e.elim)).trans q2).trans (hn.more (fun q e => e.elim)), by omega, by omega, by omega, by omega, by omega, hb2⟩)
  have HNum := Lib.hid (fun W2 (a2 e2 m2 : Nat) (q : XI f g c N l fr t R a2 e2 m2 W2) (q2 : m2 < 100000) => number_x q q2 32)
  have HBl := Lib.hid (fun W2 (a2 e2 m2 : Nat) (q : XI f g c N l fr t R a2 e2 m2 W2) (q2 : m2 < 100000) => block_x q q2 hx)
  have HLa := Lib.hid (fun W2 (a2 e2 m2 : Nat) (q : XI f g c N l fr t R a2 e2 m2 W2) (q2 : m2 < 50000) F hF => labels_x q q2 F hF)
  have HAc := Lib.hid (fun W2 (a2 e2 m2 : Nat) (q : XI f g c N l fr t R a2 e2 m2 W2) (q2 : m2 < 50000) F hF => access_x q q2 F hF)
  have HWd := Lib.hid (fun W2 (a2 e2 m2 : Nat) (k : Int) (q : XI f g c N l fr t R a2 e2 m2 W2) (q2 : m2 < 100000) (hk : k = 32 ∨ k = 64) => word_x q q2 k hk)
  have HW := Lib.hid hW0
  have HB := Lib.hid hb2
  have HSz : Hid (b2 < W0.heap.size) := Lib.hid hZ0.lt
  unfold XW at HNum HBl HWd
  unfold LX at HLa
  unfold OX at HOp
  clear h hE hW0 hb2 hf0 hZ0 hR0 hlt hC
  go_enter Tryz.func41, Tryz.ntmps41
  go_upto_region 1 with fail
  rw [← HW.out, ← HB.out]
  go_upto_region 2 with (go_at_call 68; refine HOp.out.mono ?_; rintro e w1 ⟨cd, nm, fo, At, nt, ct, Ag, ng, cg, ok, rfl, q4, q2, q3⟩; have HS := Lib.hid (HS1.out w1 _ _ _ q2 q3 #[.int .i64 cd, .string nm, .int .i64 fo, .slice At nt ct, .slice Ag ng cg] #[.int .i64 cd, .int .u64 0, .int .u64 0, .int .i64 0, .slice none 0 0]); have HIX := Lib.hid q4; have hs1 : b2 < w1.heap.size := Nat.lt_of_lt_of_le HSz.out q3.size; clear q2 q3 q4)
  go_upto_region 3 with fail
  obtain ⟨W6, hW6⟩ : ∃ V, V = (w1.alloc (.cells #[.int .i64 cd, .string nm, .int .i64 fo, .slice At nt ct, .slice Ag ng cg] 61)).alloc (.cells #[.int .i64 cd, .int .u64 0, .int .u64 0, .int .i64 0, .slice none 0 0] 30) := ⟨_, rfl⟩
  obtain ⟨b4, hb4⟩ : ∃ x, x = w1.heap.size + 1 := ⟨_, rfl⟩
  obtain ⟨b3, hb3⟩ : ∃ x, x = w1.heap.size := ⟨_, rfl⟩
  have hI : Blk W6 b3 61 #[.int .i64 cd, .string nm, .int .i64 fo, .slice At nt ct, .slice Ag ng cg] := by rw [hW6, hb3]; exact (Blk.new w1 61 _).alloc _
  have hB6 : Below w1.heap.size w1 W6 := by rw [hW6]; exact ((Below.refl _ _).alloc (Nat.le_refl _) _).alloc (by simp) _
  rw [← hW6, ← hb4] at HS
  have HB6 := Lib.hid hB6
  first | rw [← hb4] | skip
  first | rw [← hb3] | skip
  first | rw [← hW6] | skip
  have i0 : W6.cell? ⟨b3, 0, none⟩ = some (.int .i64 cd) := hI.cell 0
  have i1 : W6.cell? ⟨b3, 1, none⟩ = some (.string nm) := hI.cell 1
  have i2 : W6.cell? ⟨b3, 2, none⟩ = some (.int .i64 fo) := hI.cell 2
  have i3 : W6.cell? ⟨b3, 3, none⟩ = some (.slice At nt ct) := hI.cell 3
  have i4 : W6.cell? ⟨b3, 4, none⟩ = some (.slice Ag ng cg) := hI.cell 4
  have hWs : b4 < W6.heap.size := HS.out.x.lt
  clear hI hB6 hW6 hb4 hb3
  obtain ⟨bt, a1, ee, HA1, HBi, HPo⟩ : ∃ (bt a1 ee : Nat), Hid (C.2.1 = a1 ∧ (if ok = true then fgE C.1 C.2.2 else mtE (fgE C.1 C.2.2) 4) = ee) ∧ Hid (fo = 11 → (((bt : Nat) : Int) = 32 ∨ ((bt : Nat) : Int) = 64) ∧ Calls Tryz.prog 33 #[.agg #[.int .i64 cd, .string nm, .int .i64 fo, .slice At nt ct, .slice Ag ng cg]] W6 fun e V' => e = .returned (.int .i64 bt) ∧ Below W6.heap.size W6 V') ∧ Hid (∀ e w', IX f g c N l fr t R (m + 3000) (armF l t fo bt cd a1 ee) w e w' → IPx f g c N l fr t R (m + 3000) C w e w') := by
    rcases HIX.out with ⟨rfl, r, i, At', ct', Ag', cg', ho, hi, e⟩ | ⟨rfl, hn, e⟩
    · refine ⟨btT (r.gives.getD 0 0), C.2.1, fgE C.1 C.2.2, Lib.hid ⟨rfl, rfl⟩, Lib.hid (fun h11 => ?_), Lib.hid (fun e2 w2 hq => ?_)⟩
      · have hm := (mem_OPS.1 ho.1).1
        have hfo : r.form = 11 := by
          have e3 := congrArg (fun z => z[2]?) e
          simp [infV] at e3
          omega
        refine ⟨bt_row r hm hfo, ?_⟩
        rw [e]
        exact bits_row r hm hfo i _ At' ct' Ag' cg' W6 (hi.below HB6.out)
      · have hcd : cd = C.1 := by
          have e3 := congrArg (fun z => z[0]?) e
          simp [infV] at e3
          have := ho.2
          omega
        have hfo : fo = ((r.form : Nat) : Int) := by
          have e3 := congrArg (fun z => z[2]?) e
          simp [infV] at e3
          exact e3
        rw [hcd, hfo] at hq
        exact .inl ⟨r, i, ho, hq⟩
    · refine ⟨0, C.2.1, mtE (fgE C.1 C.2.2) 4, Lib.hid ⟨rfl, rfl⟩, Lib.hid (fun h11 => ?_), Lib.hid (fun e2 w2 hq => ?_)⟩
      · have e3 := congrArg (fun z => z[2]?) e
        simp [Z57] at e3
        omega
      · have hcd : cd = 0 := by
          have e3 := congrArg (fun z => z[0]?) e
          simpa [Z57] using e3
        have hfo : fo = 0 := by
          have e3 := congrArg (fun z => z[2]?) e
          simpa [Z57] using e3
        rw [hcd, hfo] at hq
        exact .inr ⟨hn, hq⟩
  rw [HA1.out.1, HA1.out.2] at HS
  clear HIX HA1 HOp HS1
  by_cases h0 : fo = 0
  · subst h0
    have harm : armF l t 0 bt cd a1 ee = (⟨cd, 0, 0, 0, []⟩, a1, ee) := by simp [armF]
    go_upto_region 19 with fail
    have fx0 : W6.cell? ⟨b4, 0, none⟩ = some (.int .i64 cd) := HS.out.x.cell 0
    have fx1 : W6.cell? ⟨b4, 1, none⟩ = some (.int .u64 0) := HS.out.x.cell 1
    have fx2 : W6.cell? ⟨b4, 2, none⟩ = some (.int .u64 0) := HS.out.x.cell 2
    have fx3 : W6.cell? ⟨b4, 3, none⟩ = some (.int .i64 0) := HS.out.x.cell 3
    have fx4 : W6.cell? ⟨b4, 4, none⟩ = some (.slice none 0 0) := HS.out.x.cell 4
    go_wp2_with (refine wpList_store_row rfl 30 (.tmp 2) (.tmp 57) rfl b2 #[.int .i64 cd, .int .u64 0, .int .u64 0, .int .i64 0, .slice none 0 0] rfl rfl 30 #[.int .i64 0, .int .u64 0, .int .u64 0, .int .i64 0, .slice none 0 0] HS.out.z (by kernel_rfl) rfl (by simp [Value.oneCell']) ?_)
    refine bodyPost_ret (v := .agg #[.int .i64 cd, .int .u64 0, .int .u64 0, .int .i64 0, .slice none 0 0]) (results_cell_row results41 _ _ b2 30 _ (0, 0) _ rfl (setRow_heap _ b2 _ _ 30 (0, 0) HS.out.z) Tryz.underlying30 rfl (by kernel_rfl)) rfl ?_
    refine HPo.out _ _ ?_
    rw [harm]
    exact HS.out.done (x := ⟨cd, 0, 0, 0, []⟩) (by omega) rfl (World.ownsRow_nil _ _ _ _) (show b2 < b2 + 1 by omega)
  have n0 : (fo == 0) = false := by rw [beq_eq_false_iff_ne]; exact h0
  by_cases h1 : fo = 1
  · subst h1
    obtain ⟨⟨x, a2, e2⟩, hP2⟩ : ∃ P, btF l t a1 ee = P := ⟨_, rfl⟩
    have HC1 := Lib.hid (HBl.out _ _ _ _ HS.out.ri (by omega))
    rw [hP2] at HC1
    dsimp only at HC1
    have harm : armF l t 1 bt cd a1 ee = (⟨cd, (x : Int), 0, 0, []⟩, a2, e2) := by simp [armF, hP2]
    clear hP2
    go_upto_region 19 with (go_at_call 69; refine HC1.out.mono ?_; rintro e w2 ⟨rfl, p2, p3⟩; have S2 := Lib.hid (HS.out.call p2 p3); have zz := S2.out.x.frozen 1; have yy := S2.out.x.cell 1; clear p2 p3)
    obtain ⟨V1, hV1⟩ : ∃ V, V = w2.setCell ⟨b4, 1, none⟩ (.int .u64 (x : Int)) := ⟨_, rfl⟩
    have S3 := Lib.hid (S2.out.set_ 1 (.int .u64 (x : Int)))
    rw [← hV1] at S3
    rw [← hV1]
    clear hV1
    have fx0 : V1.cell? ⟨b4, 0, none⟩ = some (.int .i64 cd) := S3.out.x.cell 0
    have fx1 : V1.cell? ⟨b4, 1, none⟩ = some (.int .u64 (x : Int)) := S3.out.x.cell 1
    have fx2 : V1.cell? ⟨b4, 2, none⟩ = some (.int .u64 0) := S3.out.x.cell 2
    have fx3 : V1.cell? ⟨b4, 3, none⟩ = some (.int .i64 0) := S3.out.x.cell 3
    have fx4 : V1.cell? ⟨b4, 4, none⟩ = some (.slice none 0 0) := S3.out.x.cell 4
    go_wp2_with (refine wpList_store_row rfl 30 (.tmp 2) (.tmp 57) rfl b2 #[.int .i64 cd, .int .u64 (x : Int), .int .u64 0, .int .i64 0, .slice none 0 0] rfl rfl 30 #[.int .i64 0, .int .u64 0, .int .u64 0, .int .i64 0, .slice none 0 0] S3.out.z (by kernel_rfl) rfl (by simp [Value.oneCell']) ?_)
    refine bodyPost_ret (v := .agg #[.int .i64 cd, .int .u64 (x : Int), .int .u64 0, .int .i64 0, .slice none 0 0]) (results_cell_row results41 _ _ b2 30 _ (0, 0) _ rfl (setRow_heap _ b2 _ _ 30 (0, 0) S3.out.z) Tryz.underlying30 rfl (by kernel_rfl)) rfl ?_
    refine HPo.out _ _ ?_
    rw [harm]
    exact S3.out.done (x := ⟨cd, (x : Int), 0, 0, []⟩) (by omega) rfl (World.ownsRow_nil _ _ _ _) (show b2 < b2 + 1 by omega)
  have n1 : (fo == 1) = false := by rw [beq_eq_false_iff_ne]; exact h1
  by_cases h3 : fo = 3
  · subst h3
    obtain ⟨⟨Ls, a2, e2⟩, hP2⟩ : ∃ P, lbF l t a1 ee = P := ⟨_, rfl⟩
    have HC1 := Lib.hid (HLa.out _ _ _ _ HS.out.ri (by omega) _ hP2)
    dsimp only at HC1
    obtain ⟨⟨x, a3, e3⟩, hP3⟩ : ∃ P, nuF l t 32 a2 e2 = P := ⟨_, rfl⟩
    have HNu := Lib.hid (fun W2 m2 => HNum.out W2 a2 e2 m2)
    simp only [hP3] at HNu
    have harm : armF l t 3 bt cd a1 ee = (⟨cd, (x : Int), 0, 0, Ls.map fun n : Nat => (n : Int)⟩, a3, e3) := by simp [armF, hP2, hP3]
    clear hP2 hP3
    go_upto_region 10 with (go_at_call 70; refine HC1.out.mono ?_; rintro e w2 ⟨A, n, cp, rfl, hn, p1, p2, p3⟩; have S2 := Lib.hid (HS.out.call p2 p3); have HO := Lib.hid p1; have HNn := Lib.hid hn; clear hn; have zz := S2.out.x.frozen 4; have yy := S2.out.x.cell 4; clear p1 p2 p3)
    obtain ⟨B6, hB6⟩ : ∃ B, B = W6.heap.size := ⟨_, rfl⟩
    rw [← hB6] at HO hWs
    have HO1 : Hid ((w2.setCell ⟨b4, 4, none⟩ (.slice A n cp)).ownsRow B6 22 1 (.slice A n cp) n (Ls.map NU)) := Lib.hid (own_frB HO.out ((Fr.refl (fun q => q = b4) w2).set_ (p := ⟨b4, 4, none⟩) rfl _) (fun q hq e => by omega))
    clear hB6
    obtain ⟨V1, hV1⟩ : ∃ V, V = w2.setCell ⟨b4, 4, none⟩ (.slice A n cp) := ⟨_, rfl⟩
    have S3 := Lib.hid (S2.out.set_ 4 (.slice A n cp))
    rw [← hV1] at S3 HO1
    rw [← hV1]
    clear hV1
    have HC2 := Lib.hid (HNu.out V1 _ S3.out.ri (by omega))
    go_upto_region 19 with (go_at_call 71; refine HC2.out.mono ?_; rintro e w3 ⟨rfl, p2, p3⟩; have S4 := Lib.hid (S3.out.call p2 p3); have HO2 := Lib.hid (own_frB HO1.out p3 (fun q hq => by have hlt3 := S3.out.lt; rintro (e | e | e) <;> omega)); have zzS4 := S4.out.x.frozen 1; have yyS4 := S4.out.x.cell 1; clear p2 p3)
    have HO3 : Hid ((w3.setCell ⟨b4, 1, none⟩ (.int .u64 (x : Int))).ownsRow B6 22 1 (.slice A n cp) n (Ls.map NU)) := Lib.hid (own_frB HO2.out ((Fr.refl (fun q => q = b4) w3).set_ (p := ⟨b4, 1, none⟩) rfl _) (fun q hq e => by omega))
    obtain ⟨V2, hV2⟩ : ∃ V, V = w3.setCell ⟨b4, 1, none⟩ (.int .u64 (x : Int)) := ⟨_, rfl⟩
    have S5 := Lib.hid (S4.out.set_ 1 (.int .u64 (x : Int)))
    rw [← hV2] at S5 HO3
    rw [← hV2]
    clear hV2
    have fx0 : V2.cell? ⟨b4, 0, none⟩ = some (.int .i64 cd) := S5.out.x.cell 0
    have fx1 : V2.cell? ⟨b4, 1, none⟩ = some (.int .u64 (x : Int)) := S5.out.x.cell 1
    have fx2 : V2.cell? ⟨b4, 2, none⟩ = some (.int .u64 0) := S5.out.x.cell 2
    have fx3 : V2.cell? ⟨b4, 3, none⟩ = some (.int .i64 0) := S5.out.x.cell 3
    have fx4 : V2.cell? ⟨b4, 4, none⟩ = some (.slice A n cp) := S5.out.x.cell 4
    go_wp2_with (refine wpList_store_row rfl 30 (.tmp 2) (.tmp 57) rfl b2 #[.int .i64 cd, .int .u64 (x : Int), .int .u64 0, .int .i64 0, .slice A n cp] rfl rfl 30 #[.int .i64 0, .int .u64 0, .int .u64 0, .int .i64 0, .slice none 0 0] S5.out.z (by kernel_rfl) rfl (by simp [Value.oneCell']) ?_)
    refine bodyPost_ret (v := .agg #[.int .i64 cd, .int .u64 (x : Int), .int .u64 0, .int .i64 0, .slice A n cp]) (results_cell_row results41 _ _ b2 30 _ (0, 0) _ rfl (setRow_heap _ b2 _ _ 30 (0, 0) S5.out.z) Tryz.underlying30 rfl (by kernel_rfl)) rfl ?_
    refine HPo.out _ _ ?_
    rw [harm]
    exact S5.out.done (x := ⟨cd, (x : Int), 0, 0, Ls.map fun n : Nat => (n : Int)⟩) (by omega) (by rw [List.length_map]; exact HNn.out) (by rw [map_nu]; exact HO3.out) (by have hlt3 := S5.out.lt; omega)
  have n3 : (fo == 3) = false := by rw [beq_eq_false_iff_ne]; exact h3
  by_cases h5 : fo = 5
  · subst h5
    obtain ⟨⟨x, a2, e2⟩, hP2⟩ : ∃ P, nuF l t 32 a1 ee = P := ⟨_, rfl⟩
    have HC1 := Lib.hid (HNum.out _ _ _ _ HS.out.ri (by omega))
    rw [hP2] at HC1
    dsimp only at HC1
    obtain ⟨⟨y, a3, e3⟩, hP3⟩ : ∃ P, nuF l t 32 a2 e2 = P := ⟨_, rfl⟩
    have HNu := Lib.hid (fun W2 m2 => HNum.out W2 a2 e2 m2)
    simp only [hP3] at HNu
    have harm : armF l t 5 bt cd a1 ee = (⟨cd, (x : Int), (y : Int), 0, []⟩, a3, e3) := by simp [armF, hP2, hP3]
    clear hP2 hP3
    go_upto_region 14 with (go_at_call 71; refine HC1.out.mono ?_; rintro e w2 ⟨rfl, p2, p3⟩; have S2 := Lib.hid (HS.out.call p2 p3); have zzS2 := S2.out.x.frozen 1; have yyS2 := S2.out.x.cell 1; clear p2 p3)
    obtain ⟨V1, hV1⟩ : ∃ V, V = w2.setCell ⟨b4, 1, none⟩ (.int .u64 (x : Int)) := ⟨_, rfl⟩
    have S3 := Lib.hid (S2.out.set_ 1 (.int .u64 (x : Int)))
    rw [← hV1] at S3
    rw [← hV1]
    clear hV1
    have HC2 := Lib.hid (HNu.out V1 _ S3.out.ri (by omega))
    go_upto_region 19 with (go_at_call 71; refine HC2.out.mono ?_; rintro e w3 ⟨rfl, p2, p3⟩; have S4 := Lib.hid (S3.out.call p2 p3); have zzS4 := S4.out.x.frozen 2; have yyS4 := S4.out.x.cell 2; clear p2 p3)
    obtain ⟨V2, hV2⟩ : ∃ V, V = w3.setCell ⟨b4, 2, none⟩ (.int .u64 (y : Int)) := ⟨_, rfl⟩
    have S5 := Lib.hid (S4.out.set_ 2 (.int .u64 (y : Int)))
    rw [← hV2] at S5
    rw [← hV2]
    clear hV2
    have fx0 : V2.cell? ⟨b4, 0, none⟩ = some (.int .i64 cd) := S5.out.x.cell 0
    have fx1 : V2.cell? ⟨b4, 1, none⟩ = some (.int .u64 (x : Int)) := S5.out.x.cell 1
    have fx2 : V2.cell? ⟨b4, 2, none⟩ = some (.int .u64 (y : Int)) := S5.out.x.cell 2
    have fx3 : V2.cell? ⟨b4, 3, none⟩ = some (.int .i64 0) := S5.out.x.cell 3
    have fx4 : V2.cell? ⟨b4, 4, none⟩ = some (.slice none 0 0) := S5.out.x.cell 4
    go_wp2_with (refine wpList_store_row rfl 30 (.tmp 2) (.tmp 57) rfl b2 #[.int .i64 cd, .int .u64 (x : Int), .int .u64 (y : Int), .int .i64 0, .slice none 0 0] rfl rfl 30 #[.int .i64 0, .int .u64 0, .int .u64 0, .int .i64 0, .slice none 0 0] S5.out.z (by kernel_rfl) rfl (by simp [Value.oneCell']) ?_)
    refine bodyPost_ret (v := .agg #[.int .i64 cd, .int .u64 (x : Int), .int .u64 (y : Int), .int .i64 0, .slice none 0 0]) (results_cell_row results41 _ _ b2 30 _ (0, 0) _ rfl (setRow_heap _ b2 _ _ 30 (0, 0) S5.out.z) Tryz.underlying30 rfl (by kernel_rfl)) rfl ?_
    refine HPo.out _ _ ?_
    rw [harm]
    exact S5.out.done (x := ⟨cd, (x : Int), (y : Int), 0, []⟩) (by omega) rfl (World.ownsRow_nil _ _ _ _) (show b2 < b2 + 1 by omega)
  have n5 : (fo == 5) = false := by rw [beq_eq_false_iff_ne]; exact h5
  by_cases h10 : fo = 10
  · subst h10
    obtain ⟨⟨x, a2, e2⟩, hP2⟩ : ∃ P, nuF l t 32 a1 ee = P := ⟨_, rfl⟩
    have HC1 := Lib.hid (HNum.out _ _ _ _ HS.out.ri (by omega))
    rw [hP2] at HC1
    dsimp only at HC1
    obtain ⟨⟨y, a3, e3⟩, hP3⟩ : ∃ P, nuF l t 32 a2 e2 = P := ⟨_, rfl⟩
    have HNu := Lib.hid (fun W2 m2 => HNum.out W2 a2 e2 m2)
    simp only [hP3] at HNu
    have harm : armF l t 10 bt cd a1 ee = (⟨cd, (x : Int), (y : Int), 0, []⟩, a3, e3) := by simp [armF, hP2, hP3]
    clear hP2 hP3
    go_upto_region 14 with (go_at_call 71; refine HC1.out.mono ?_; rintro e w2 ⟨rfl, p2, p3⟩; have S2 := Lib.hid (HS.out.call p2 p3); have zzS2 := S2.out.x.frozen 1; have yyS2 := S2.out.x.cell 1; clear p2 p3)
    obtain ⟨V1, hV1⟩ : ∃ V, V = w2.setCell ⟨b4, 1, none⟩ (.int .u64 (x : Int)) := ⟨_, rfl⟩
    have S3 := Lib.hid (S2.out.set_ 1 (.int .u64 (x : Int)))
    rw [← hV1] at S3
    rw [← hV1]
    clear hV1
    have HC2 := Lib.hid (HNu.out V1 _ S3.out.ri (by omega))
    go_upto_region 19 with (go_at_call 71; refine HC2.out.mono ?_; rintro e w3 ⟨rfl, p2, p3⟩; have S4 := Lib.hid (S3.out.call p2 p3); have zzS4 := S4.out.x.frozen 2; have yyS4 := S4.out.x.cell 2; clear p2 p3)
    obtain ⟨V2, hV2⟩ : ∃ V, V = w3.setCell ⟨b4, 2, none⟩ (.int .u64 (y : Int)) := ⟨_, rfl⟩
    have S5 := Lib.hid (S4.out.set_ 2 (.int .u64 (y : Int)))
    rw [← hV2] at S5
    rw [← hV2]
    clear hV2
    have fx0 : V2.cell? ⟨b4, 0, none⟩ = some (.int .i64 cd) := S5.out.x.cell 0
    have fx1 : V2.cell? ⟨b4, 1, none⟩ = some (.int .u64 (x : Int)) := S5.out.x.cell 1
    have fx2 : V2.cell? ⟨b4, 2, none⟩ = some (.int .u64 (y : Int)) := S5.out.x.cell 2
    have fx3 : V2.cell? ⟨b4, 3, none⟩ = some (.int .i64 0) := S5.out.x.cell 3
    have fx4 : V2.cell? ⟨b4, 4, none⟩ = some (.slice none 0 0) := S5.out.x.cell 4
    go_wp2_with (refine wpList_store_row rfl 30 (.tmp 2) (.tmp 57) rfl b2 #[.int .i64 cd, .int .u64 (x : Int), .int .u64 (y : Int), .int .i64 0, .slice none 0 0] rfl rfl 30 #[.int .i64 0, .int .u64 0, .int .u64 0, .int .i64 0, .slice none 0 0] S5.out.z (by kernel_rfl) rfl (by simp [Value.oneCell']) ?_)
    refine bodyPost_ret (v := .agg #[.int .i64 cd, .int .u64 (x : Int), .int .u64 (y : Int), .int .i64 0, .slice none 0 0]) (results_cell_row results41 _ _ b2 30 _ (0, 0) _ rfl (setRow_heap _ b2 _ _ 30 (0, 0) S5.out.z) Tryz.underlying30 rfl (by kernel_rfl)) rfl ?_
    refine HPo.out _ _ ?_
    rw [harm]
    exact S5.out.done (x := ⟨cd, (x : Int), (y : Int), 0, []⟩) (by omega) rfl (World.ownsRow_nil _ _ _ _) (show b2 < b2 + 1 by omega)
  have n10 : (fo == 10) = false := by rw [beq_eq_false_iff_ne]; exact h10
  by_cases h8 : fo = 8
  · subst h8
    obtain ⟨⟨⟨al, x, y⟩, a2, e2⟩, hP2⟩ : ∃ P, acF l t a1 ee = P := ⟨_, rfl⟩
    have HC1 := Lib.hid (HAc.out _ _ _ _ HS.out.ri (by omega) _ hP2)
    dsimp only at HC1
    have harm : armF l t 8 bt cd a1 ee = (⟨cd, (x : Int), (y : Int), (al : Int), []⟩, a2, e2) := by simp [armF, hP2]
    clear hP2
    go_upto_region 19 with (go_at_call 72; refine HC1.out.mono ?_; rintro e w2 ⟨rfl, p2, p3⟩; have S2 := Lib.hid (HS.out.call p2 p3); have zz1 := S2.out.x.frozen 1; have zz2 := S2.out.x.frozen 2; have zz3 := S2.out.x.frozen 3; have yy1 := S2.out.x.cell 1; have yy2 := S2.out.x.cell 2; have yy3 := S2.out.x.cell 3; clear p2 p3)
    obtain ⟨V1, hV1⟩ : ∃ V, V = ((w2.setCell ⟨b4, 3, none⟩ (.int .i64 (al : Int))).setCell ⟨b4, 1, none⟩ (.int .u64 (x : Int))).setCell ⟨b4, 2, none⟩ (.int .u64 (y : Int)) := ⟨_, rfl⟩
    have S3 := Lib.hid (((S2.out.set_ 3 (.int .i64 (al : Int))).set_ 1 (.int .u64 (x : Int))).set_ 2 (.int .u64 (y : Int)))
    rw [← hV1] at S3
    rw [← hV1]
    clear hV1
    have fx0 : V1.cell? ⟨b4, 0, none⟩ = some (.int .i64 cd) := S3.out.x.cell 0
    have fx1 : V1.cell? ⟨b4, 1, none⟩ = some (.int .u64 (x : Int)) := S3.out.x.cell 1
    have fx2 : V1.cell? ⟨b4, 2, none⟩ = some (.int .u64 (y : Int)) := S3.out.x.cell 2
    have fx3 : V1.cell? ⟨b4, 3, none⟩ = some (.int .i64 (al : Int)) := S3.out.x.cell 3
    have fx4 : V1.cell? ⟨b4, 4, none⟩ = some (.slice none 0 0) := S3.out.x.cell 4
    go_wp2_with (refine wpList_store_row rfl 30 (.tmp 2) (.tmp 57) rfl b2 #[.int .i64 cd, .int .u64 (x : Int), .int .u64 (y : Int), .int .i64 (al : Int), .slice none 0 0] rfl rfl 30 #[.int .i64 0, .int .u64 0, .int .u64 0, .int .i64 0, .slice none 0 0] S3.out.z (by kernel_rfl) rfl (by simp [Value.oneCell']) ?_)
    refine bodyPost_ret (v := .agg #[.int .i64 cd, .int .u64 (x : Int), .int .u64 (y : Int), .int .i64 (al : Int), .slice none 0 0]) (results_cell_row results41 _ _ b2 30 _ (0, 0) _ rfl (setRow_heap _ b2 _ _ 30 (0, 0) S3.out.z) Tryz.underlying30 rfl (by kernel_rfl)) rfl ?_
    refine HPo.out _ _ ?_
    rw [harm]
    exact S3.out.done (x := ⟨cd, (x : Int), (y : Int), (al : Int), []⟩) (by omega) rfl (World.ownsRow_nil _ _ _ _) (show b2 < b2 + 1 by omega)
  have n8 : (fo == 8) = false := by rw [beq_eq_false_iff_ne]; exact h8
  by_cases h11 : fo = 11
  · subst h11
    obtain ⟨hbt, h33⟩ := HBi.out rfl
    have HB3 := Lib.hid h33
    clear h33
    obtain ⟨⟨x, a2, e2⟩, hP2⟩ : ∃ P, wdF l t bt a1 ee = P := ⟨_, rfl⟩
    have HC1 := Lib.hid (fun W2 m2 q q2 => HWd.out W2 a1 ee m2 (bt : Int) q q2 hbt)
    simp only [hP2] at HC1
    have harm : armF l t 11 bt cd a1 ee = (⟨cd, (x : Int), 0, 0, []⟩, a2, e2) := by simp [armF, hP2]
    clear hP2
    go_upto_region 19 with (first
      | (go_at_call 33; refine HB3.out.mono ?_; rintro e w2 ⟨rfl, p3⟩; have S1 := Lib.hid (HS.out.below p3); clear p3)
      | (go_at_call 73; refine (HC1.out _ _ S1.out.ri (by omega)).mono ?_; rintro e w3 ⟨rfl, p2, p3⟩; have S2 := Lib.hid (S1.out.call p2 p3); have zz := S2.out.x.frozen 1; have yy := S2.out.x.cell 1; clear p2 p3))
    obtain ⟨V1, hV1⟩ : ∃ V, V = w3.setCell ⟨b4, 1, none⟩ (.int .u64 (x : Int)) := ⟨_, rfl⟩
    have S3 := Lib.hid (S2.out.set_ 1 (.int .u64 (x : Int)))
    rw [← hV1] at S3
    rw [← hV1]
    clear hV1
    have fx0 : V1.cell? ⟨b4, 0, none⟩ = some (.int .i64 cd) := S3.out.x.cell 0
    have fx1 : V1.cell? ⟨b4, 1, none⟩ = some (.int .u64 (x : Int)) := S3.out.x.cell 1
    have fx2 : V1.cell? ⟨b4, 2, none⟩ = some (.int .u64 0) := S3.out.x.cell 2
    have fx3 : V1.cell? ⟨b4, 3, none⟩ = some (.int .i64 0) := S3.out.x.cell 3
    have fx4 : V1.cell? ⟨b4, 4, none⟩ = some (.slice none 0 0) := S3.out.x.cell 4
    go_wp2_with (refine wpList_store_row rfl 30 (.tmp 2) (.tmp 57) rfl b2 #[.int .i64 cd, .int .u64 (x : Int), .int .u64 0, .int .i64 0, .slice none 0 0] rfl rfl 30 #[.int .i64 0, .int .u64 0, .int .u64 0, .int .i64 0, .slice none 0 0] S3.out.z (by kernel_rfl) rfl (by simp [Value.oneCell']) ?_)
    refine bodyPost_ret (v := .agg #[.int .i64 cd, .int .u64 (x : Int), .int .u64 0, .int .i64 0, .slice none 0 0]) (results_cell_row results41 _ _ b2 30 _ (0, 0) _ rfl (setRow_heap _ b2 _ _ 30 (0, 0) S3.out.z) Tryz.underlying30 rfl (by kernel_rfl)) rfl ?_
    refine HPo.out _ _ ?_
    rw [harm]
    exact S3.out.done (x := ⟨cd, (x : Int), 0, 0, []⟩) (by omega) rfl (World.ownsRow_nil _ _ _ _) (show b2 < b2 + 1 by omega)
  have n11 : (fo == 11) = false := by rw [beq_eq_false_iff_ne]; exact h11
  obtain ⟨⟨x, a2, e2⟩, hP2⟩ : ∃ P, nuF l t 32 a1 ee = P := ⟨_, rfl⟩
  have HC1 := Lib.hid (HNum.out _ _ _ _ HS.out.ri (by omega))
  rw [hP2] at HC1
  dsimp only at HC1
  have harm : armF l t fo bt cd a1 ee = (⟨cd, (x : Int), 0, 0, []⟩, a2, e2) := by simp [armF, hP2, h0, h1, h3, h5, h10, h8, h11]
  clear hP2
  go_upto_region 19 with (go_at_call 71; refine HC1.out.mono ?_; rintro e w2 ⟨rfl, p2, p3⟩; have S2 := Lib.hid (HS.out.call p2 p3); have zzS2 := S2.out.x.frozen 1; have yyS2 := S2.out.x.cell 1; clear p2 p3)
  obtain ⟨V1, hV1⟩ : ∃ V, V = w2.setCell ⟨b4, 1, none⟩ (.int .u64 (x : Int)) := ⟨_, rfl⟩
  have S3 := Lib.hid (S2.out.set_ 1 (.int .u64 (x : Int)))
  rw [← hV1] at S3
  rw [← hV1]
  clear hV1
  have fx0 : V1.cell? ⟨b4, 0, none⟩ = some (.int .i64 cd) := S3.out.x.cell 0
  have fx1 : V1.cell? ⟨b4, 1, none⟩ = some (.int .u64 (x : Int)) := S3.out.x.cell 1
  have fx2 : V1.cell? ⟨b4, 2, none⟩ = some (.int .u64 0) := S3.out.x.cell 2
  have fx3 : V1.cell? ⟨b4, 3, none⟩ = some (.int .i64 0) := S3.out.x.cell 3
  have fx4 : V1.cell? ⟨b4, 4, none⟩ = some (.slice none 0 0) := S3.out.x.cell 4
  go_wp2_with (refine wpList_store_row rfl 30 (.tmp 2) (.tmp 57) rfl b2 #[.int .i64 cd, .int .u64 (x : Int), .int .u64 0, .int .i64 0, .slice none 0 0] rfl rfl 30 #[.int .i64 0, .int .u64 0, .int .u64 0, .int .i64 0, .slice none 0 0] S3.out.z (by kernel_rfl) rfl (by simp [Value.oneCell']) ?_)
  refine bodyPost_ret (v := .agg #[.int .i64 cd, .int .u64 (x : Int), .int .u64 0, .int .i64 0, .slice none 0 0]) (results_cell_row results41 _ _ b2 30 _ (0, 0) _ rfl (setRow_heap _ b2 _ _ 30 (0, 0) S3.out.z) Tryz.underlying30 rfl (by kernel_rfl)) rfl ?_
  refine HPo.out _ _ ?_
  rw [harm]
  exact S3.out.done (x := ⟨cd, (x : Int), 0, 0, []⟩) (by omega) rfl (World.ownsRow_nil _ _ _ _) (show b2 < b2 + 1 by omega)
end
end Go.Proofs.YtggfaalodojjkaaGreatDoor
namespace Go.Proofs.YtggfaalodojjkaaGreatDoor
open Go.RowKit
set_option linter.unusedVariables false
set_option linter.unusedSimpArgs false
theorem results17 : Tryz.f17.results = #[.cell 2 30, .tmp 3] := by kernel_rfl
theorem res_cell30 {fn : Func} {P : Program} {p u : Tmp} {ty : TypeId} (h : fn.results = #[.cell p ty, .tmp u]) (tmps : Array Value) (w : World) (g : Nat) (t : TypeId) (cs : Array Value) (d : TypeDesc)
    (hp : tmps.getD p undef = .pointer (some ⟨g, 0, none⟩)) (hg : w.heap[g]? = some (.cells cs t (0, 0))) (hu : P.underlying ty = some d) (hd : (match d with | .struct _ | .array _ _ => true | _ => false) = true) (hi : (P.info? ty).map (·.size) = some cs.size) :
    (results fn tmps).run P w = .ok (.tuple #[.agg cs, tmps.getD u undef]) w := res_cell h tmps w g t cs d hp hg hu hd hi
theorem dec_fr {w V V' : World} {f c R b2 : Nat} (h : Fr (FR f c R) w V) (hf : Fr (fun q => q = b2) V V') (h1 : b2 + 1 = R ∧ b2 = w.heap.size) (h2 : True) : Fr (FC f c) w V' := by
  refine (⟨h.os, h.tape, h.output, h.size, fun i hi hs => h.block i hi (fun q => ?_)⟩ : Fr (FC f c) w V).trans_new hf (fun i e => .inr (by omega))
  rcases q with e | e | e
  · exact hs (.inl e)
  · exact hs (.inr e)
  · omega
section
variable {w w' : World} {f g c N : Nat} {l : List Nat} {fr t m : Nat}
/-- what is read where a code stands: an instruction, where it ends, the error -/
def GoodG (l : List Nat) (t : Nat) (C : Int × Nat × Nat) (G : In × Nat × Nat) : Prop :=
  (∃ r i, OpAt C.1 r i ∧ G = armF l t ((r.form : Nat) : Int) (btT (r.gives.getD 0 0)) C.1 C.2.1 (fgE C.1 C.2.2)) ∨ ((∀ r i, ¬ OpAt C.1 r i) ∧ G = (⟨0, 0, 0, 0, []⟩, C.2.1, mtE (fgE C.1 C.2.2) 4))
/-- what Decode answers, and leaves -/
def DX (f g c N : Nat) (l : List Nat) (r : Nat) (fr t a : Nat) (w : World) (e : Ending) (w' : World) : Prop :=
  ∃ (G : In × Nat × Nat) (r' : Nat), GoodG l t (cdF l t a 0) G ∧ r' ≤ r + 3000 ∧ Fr (FC f c) w w' ∧
    ((G.2.2 = 0 ∧ St w' f g c N l r' (-1) fr t G.2.1 ∧ ∃ A cp, e = .returned (.tuple #[.agg #[.int .i64 G.1.cd, .int .u64 G.1.a, .int .u64 G.1.b, .int .i64 G.1.al, .slice A G.1.l.length cp], .int .i64 0]) ∧ w'.ownsRow w.heap.size 22 1 (.slice A G.1.l.length cp) G.1.l.length (G.1.l.map U64)) ∨
     (G.2.2 ≠ 0 ∧ St w' f g c N l r' (-1) fr t a ∧ e = .returned (.tuple #[.agg #[.int .i64 0, .int .u64 0, .int .u64 0, .int .i64 0, .slice none 0 0], .int .i64 G.2.2])))
set_option maxHeartbeats 4000000 in
set_option maxRecDepth 100000 in
theorem Decode_x {r a : Nat} (h : St w f g c N l r (-1) fr t a) (hm : r < 30000) (hx : ∀ z ∈ l, z < 256) (hT : Tb w) (hTab : Tab w 1 13 2 forL) (h2f : 2 ≤ f) (h2c : 2 ≤ c) : Calls Tryz.prog 17 #[.pointer (some ⟨c, 0, none⟩)] w (DX f g c N l r fr t a w) := by
  obtain ⟨W0, hW0⟩ : ∃ V, V = w.alloc (.cells #[.int .i64 0, .int .u64 0, .int .u64 0, .int .i64 0, .slice none 0 0] 30) := ⟨_, rfl⟩
  obtain ⟨b2, hb2⟩ : ∃ x, x = w.heap.size := ⟨_, rfl⟩
  obtain ⟨W1, hW1⟩ : ∃ V, V = W0.alloc (.cells #[.pointer (some ⟨c, 0, none⟩), .int .i64 0] 89) := ⟨_, rfl⟩
  obtain ⟨R, hR⟩ : ∃ x, x = w.heap.size + 1 := ⟨_, rfl⟩
  have hf0 : Fr (fun _ => False) w W0 := by rw [hW0]; exact (Fr.refl _ w).alloc _
  have hf1 : Fr (fun _ => False) w W1 := by rw [hW1]; exact hf0.alloc _
  have hs0 : W0.heap.size = R := by rw [hW0, hR]; simp
  have hZ1 : Blk W1 b2 30 #[.int .i64 0, .int .u64 0, .int .u64 0, .int .i64 0, .slice none 0 0] := by rw [hW1, hW0, hb2]; exact (Blk.new w 30 _).alloc _
  have hR1 : Blk W1 R 89 #[.pointer (some ⟨c, 0, none⟩), .int .i64 ((0 : Nat) : Int)] := by rw [hW1, ← hs0]; exact Blk.new W0 89 _
  have hRS : XI f g c N l fr t R a 0 r W1 := ⟨r, ⟨h.fr_ hf1 (fun q => q) (fun q => q) (fun q => q), hR1⟩, Nat.le_refl _⟩
  have hlt : f < b2 ∧ g < b2 ∧ c < b2 := by rw [hb2]; exact ⟨h.fl.blk.lt, h.fl.byt.lt, h.cu.lt⟩
  have hEv : Ev W1 f c R := ⟨tb_fr hT hf1 (fun q => q), tab_fr hTab hf1 (fun q => q), h2f, h2c, by omega⟩
  have HAt := Lib.hid (At_any W0 c f fr t a (h.cu.fr hf0 (fun q => q)))
  have HIn := Lib.hid (instr_x hRS hm hx hEv (cdF l t a 0) rfl)
  have hfrt : fr ≤ a ∧ a ≤ t := ⟨h.h1, h.h2⟩
  have HZ := Lib.hid (fun w1 (q : Fr (FR f c R) W1 w1) => hZ1.fr q (by rintro (e | e | e) <;> omega))
  have HLT := Lib.hid (And.intro hlt (And.intro (show b2 + 1 = R by omega) hb2))
  have HF1 := Lib.hid hf1
  have HW0 := Lib.hid hW0
  have HW1 := Lib.hid hW1
  have HB := Lib.hid hb2
  have HS0 := Lib.hid hs0
  have HRl := Lib.hid hR1.lt
  have HFT := Lib.hid hfrt
  obtain ⟨C, hC⟩ : ∃ C, C = cdF l t a 0 := ⟨_, rfl⟩
  rw [← hC] at HIn
  have HC := Lib.hid hC
  have HIp : Hid (∀ e w2, IPx f g c N l fr t R (r + 3000) C W1 e w2 → ∃ (cd x y al : Int) (L : List Int) (a2 e2 : Nat) (A : Option Addr) (n cp : Nat), e = .returned (.agg #[.int .i64 cd, .int .u64 x, .int .u64 y, .int .i64 al, .slice A n cp]) ∧ GoodG l t C (⟨cd, x, y, al, L⟩, a2, e2) ∧ n = L.length ∧ w2.ownsRow W1.heap.size 22 1 (.slice A n cp) n (L.map U64) ∧ XI f g c N l fr t R a2 e2 (r + 3000) w2 ∧ Fr (FR f c R) W1 w2) := Lib.hid (fun e w2 h => by
    rcases h with ⟨q, i, ho, A, cp, he, hw, hX, hf⟩ | ⟨hn, A, cp, he, hw, hX, hf⟩
    · exact ⟨_, _, _, _, _, _, _, A, _, cp, he, .inl ⟨q, i, ho, rfl⟩, rfl, hw, hX, hf⟩
    · exact ⟨_, _, _, _, _, _, _, A, _, cp, he, .inr ⟨hn, rfl⟩, rfl, hw, hX, hf⟩)
  clear hC
  clear h hT hTab hW0 hb2 hW1 hR hf0 hf1 hs0 hZ1 hR1 hRS hlt hEv hfrt
  go_enter Tryz.func17, Tryz.ntmps17
  go_upto_region 1 with fail
  rw [← HW0.out, ← HB.out]
  go_upto_region 2 with (go_at_call 24; refine HAt.out.mono ?_; rintro e w1 ⟨rfl, rfl⟩)
  go_upto_region 3 with fail
  first | rw [HS0.out] | skip
  rw [← HW1.out]
  go_upto_region 4 with (go_at_call 41; refine HIn.out.mono ?_; intro e w2 hq; obtain ⟨cd, x, y, al, L, a2, e2, A, n, cp, rfl, q5, q4, q3, q1, q2⟩ := HIp.out e w2 hq; have H2 := Lib.hid q1; have F2 := Lib.hid q2; have HGG := Lib.hid q5; have HNL := Lib.hid q4; have HO2 := Lib.hid q3; clear q1 q2 q3 q4 q5 hq)
  obtain ⟨W3, hW3⟩ : ∃ V, V = w2.alloc (.cells #[.int .i64 cd, .int .u64 x, .int .u64 y, .int .i64 al, .slice A n cp] 30) := ⟨_, rfl⟩
  obtain ⟨b6, hb6⟩ : ∃ x, x = w2.heap.size := ⟨_, rfl⟩
  have hf3 : Fr (fun _ => False) w2 W3 := by rw [hW3]; exact (Fr.refl _ w2).alloc _
  have hX3 : Blk W3 b6 30 #[.int .i64 cd, .int .u64 x, .int .u64 y, .int .i64 al, .slice A n cp] := by rw [hW3, hb6]; exact Blk.new w2 30 _
  have hZ3 := (HZ.out w2 F2.out).fr hf3 (fun q => q)
  rw [← hb6, ← hW3]
  have HO3 := Lib.hid (own_frB HO2.out hf3 (fun q hq e => e))
  obtain ⟨a1, ha1⟩ : ∃ z, z = a2 := ⟨_, rfl⟩
  obtain ⟨er, her⟩ : ∃ z, z = e2 := ⟨_, rfl⟩
  rw [← ha1, ← her] at H2 HGG
  clear ha1 her
  obtain ⟨r1, hS, k1⟩ := H2.out.new hf3
  have hsW : b2 < W1.heap.size := by have := HLT.out; have := HRl.out; omega
  have hlt6 : R < b6 := by rw [hb6]; exact Nat.lt_of_lt_of_le HRl.out F2.out.size
  have hR3 := hS.rd
  have e1 : W3.cell? ⟨R, 1, none⟩ = some (.int .i64 er) := hR3.cell 1
  have x0 : W3.cell? ⟨b6, 0, none⟩ = some (.int .i64 cd) := hX3.cell 0
  have x1 : W3.cell? ⟨b6, 1, none⟩ = some (.int .u64 x) := hX3.cell 1
  have x2 : W3.cell? ⟨b6, 2, none⟩ = some (.int .u64 y) := hX3.cell 2
  have x3 : W3.cell? ⟨b6, 3, none⟩ = some (.int .i64 al) := hX3.cell 3
  have x4 : W3.cell? ⟨b6, 4, none⟩ = some (.slice A n cp) := hX3.cell 4
  have HZ3 := Lib.hid hZ3
  have F3 := Lib.hid ((HF1.out.more (fun q e => e.elim)).trans (F2.out.trans (hf3.more (fun q e => e.elim))))
  have HSt := Lib.hid hS.st
  have HX := Lib.hid k1
  clear hf3 hX3 hZ3 hW3 hb6 hS k1 HAt HIn HZ H2 F2 HO2 HIp
  by_cases he : er = 0
  · subst he
    go_upto_region 7 with fail
    go_wp2_with (refine wpList_store_row rfl 30 (.tmp 2) (.tmp 21) rfl b2 #[.int .i64 cd, .int .u64 x, .int .u64 y, .int .i64 al, .slice A n cp] rfl rfl 30 #[.int .i64 0, .int .u64 0, .int .u64 0, .int .i64 0, .slice none 0 0] HZ3.out (by kernel_rfl) rfl (by simp [Value.oneCell']) ?_)
    refine bodyPost_ret (v := .tuple #[.agg #[.int .i64 cd, .int .u64 x, .int .u64 y, .int .i64 al, .slice A n cp], .int .i64 ((0 : Nat) : Int)]) (res_cell30 results17 _ _ b2 30 _ _ rfl (setRow_heap _ b2 _ _ 30 (0, 0) HZ3.out) Tryz.underlying30 rfl (by kernel_rfl)) rfl ?_
    have q1 := HLT.out
    have hn := HNL.out
    subst hn
    refine ⟨(⟨cd, x, y, al, L⟩, a1, 0), r1, by rw [← HC.out]; exact HGG.out, HX.out, dec_fr F3.out (fr_setRow _ b2 _) ⟨q1.2.1, q1.2.2⟩ trivial, .inl ⟨rfl, HSt.out.fr_ (fr_setRow _ b2 _) (by omega) (by omega) (by omega), A, cp, rfl, ?_⟩⟩
    exact own_base (own_frB HO3.out (fr_setRow _ b2 _) (fun q hq e => by omega)) (by omega)
  · have hne : (((er : Nat) : Int) != 0) = true := by rw [bne_iff_ne]; omega
    have HG := Lib.hid (Go_yes W3 c f fr t a1 (a : Int) HSt.out.cu (by have := HFT.out; omega) (by have := HFT.out; omega))
    obtain ⟨W4, hW4⟩ : ∃ V, V = W3.setCell ⟨c, 3, none⟩ (.int .i64 (a : Int)) := ⟨_, rfl⟩
    have hS4 := HSt.out.moved a HFT.out.1 HFT.out.2
    have hf4 : Fr (fun q => q = c) W3 W4 := by rw [hW4]; exact (Fr.refl (fun q => q = c) W3).set_ (p := ⟨c, 3, none⟩) rfl _
    rw [← hW4] at hS4 HG
    have hR4 := hR3.fr hf4 (by have := HLT.out; omega)
    have e4 : W4.cell? ⟨R, 1, none⟩ = some (.int .i64 er) := hR4.cell 1
    have HZ4 := Lib.hid (HZ3.out.fr hf4 (by have := HLT.out; omega))
    have HS4 := Lib.hid hS4
    have F4 := Lib.hid (F3.out.trans (hf4.more (fun q e => .inr (.inl e))))
    clear hW4 hf4 hR4 hS4 hR3
    go_upto_region 6 with (go_at_call 22; refine HG.out.mono ?_; rintro e w5 ⟨rfl, rfl⟩)
    clear e1 x0 x1 x2 x3 x4
    have KH : Hid ((W4.drew.setRow b2 #[.int .i64 0, .int .u64 0, .int .u64 0, .int .i64 0, .slice none 0 0]).cell? ⟨R, 1, none⟩ = some (.int .i64 er)) := Lib.hid (by
      have hb := (fr_setRow W4.drew b2 #[.int .i64 0, .int .u64 0, .int .u64 0, .int .i64 0, .slice none 0 0])
      have h9 := HLT.out
      have h8 : R < W4.drew.heap.size := World.block_lt_of_cell? W4.drew ⟨R, 1, none⟩ e4
      have := hb.block R h8 (by omega)
      simp only [World.cell?] at e4 ⊢
      rw [this]
      exact e4)
    refine wp_region_held_drew (S := (fun W => W.cell? ⟨R, 1, none⟩ = some (.int .i64 er))) (by kernel_rfl) e4 (fun hHeld => ?_)
    refine wpAnyH_take (i := 0) (oi := ?oi_1) (v := ?_) ?hi_1 (by kernel_rfl) ?hf_1 (by kernel_rfl) ?hQ_1 ?hy_1 (by assumption) ?_
    case hi_1 => simp only [List.getElem?_toArray, List.getElem?_cons_zero, List.getElem?_cons_succ] <;> rfl
    case hf_1 => kernel_rfl
    case hQ_1 => exact fun _ _ _ h => h
    case hy_1 =>
      refine Or.inl ⟨by rfl, ?_⟩
      intro W hSw
      have hq0 := hSw
      go_simp
      try with_reducible rfl
    try simp only [Act.put, List.setIfInBounds_toArray, List.set_cons_zero, List.set_cons_succ]
    refine wpAnyH_take (i := 1) (oi := ?oi_2) (v := ?_) ?hi_2 (by kernel_rfl) ?hf_2 (by kernel_rfl) ?hQ_2 ?hy_2 (by assumption) ?_
    case hi_2 => simp only [List.getElem?_toArray, List.getElem?_cons_zero, List.getElem?_cons_succ] <;> rfl
    case hf_2 => kernel_rfl
    case hQ_2 => exact fun _ _ _ h => h
    case hy_2 =>
      refine Or.inl ⟨by rfl, ?_⟩
      intro W hSw
      have hq0 := hSw
      go_simp
      try with_reducible rfl
    try simp only [Act.put, List.setIfInBounds_toArray, List.set_cons_zero, List.set_cons_succ]
    refine wpAnyH_take (i := 2) (oi := ?oi_3) (v := ?_) ?hi_3 (by kernel_rfl) ?hf_3 (by kernel_rfl) ?hQ_3 ?hy_3 (by assumption) ?_
    case hi_3 => simp only [List.getElem?_toArray, List.getElem?_cons_zero, List.getElem?_cons_succ] <;> rfl
    case hf_3 => kernel_rfl
    case hQ_3 => exact fun _ _ _ h => h
    case hy_3 =>
      refine Or.inl ⟨by rfl, ?_⟩
      intro W hSw
      have hq0 := hSw
      go_simp
      try with_reducible rfl
    try simp only [Act.put, List.setIfInBounds_toArray, List.set_cons_zero, List.set_cons_succ]
    refine wpAnyH_ready (rs := [3]) (by kernel_rfl) (by simp) ?_
    refine AllReadyH.cons (o := ?oi_4) ?hi_4 (fun K hK => ?_) AllReadyH.nil
    case hi_4 => simp only [List.getElem?_toArray, List.getElem?_cons_zero, List.getElem?_cons_succ] <;> rfl
    refine step_store_row rfl 30 (.tmp 2) (.tmp 18) rfl b2 #[.int .i64 0, .int .u64 0, .int .u64 0, .int .i64 0, .slice none 0 0] rfl rfl 30 #[.int .i64 0, .int .u64 0, .int .u64 0, .int .i64 0, .slice none 0 0] (HZ4.out.drewN 1) (by kernel_rfl) rfl (by simp [Value.oneCell']) ?_
    refine hK.out _ _ KH.out (fun hHeld => ?_)
    clear hK K
    try simp only [Act.put, List.setIfInBounds_toArray, List.set_cons_zero, List.set_cons_succ]
    refine wpAnyH_take (i := 4) (oi := ?oi_5) (v := ?_) ?hi_5 (by kernel_rfl) ?hf_5 (by kernel_rfl) ?hQ_5 ?hy_5 (by assumption) ?_
    case hi_5 => simp only [List.getElem?_toArray, List.getElem?_cons_zero, List.getElem?_cons_succ] <;> rfl
    case hf_5 => kernel_rfl
    case hQ_5 => exact fun _ _ _ h => h
    case hy_5 =>
      refine Or.inl ⟨by rfl, ?_⟩
      intro W hSw
      have hq0 := hSw
      go_simp
      try with_reducible rfl
    try simp only [Act.put, List.setIfInBounds_toArray, List.set_cons_zero, List.set_cons_succ]
    refine wpAnyH_done (by kernel_rfl) ?_ _
    clear hHeld
    simp only [Exit.inBlock, Exit.then]
    go_wp2
    refine bodyPost_ret (v := .tuple #[.agg #[.int .i64 0, .int .u64 0, .int .u64 0, .int .i64 0, .slice none 0 0], .int .i64 er]) (res_cell30 results17 _ _ b2 30 _ _ rfl (setRow_heap _ b2 _ _ 30 (0, 0) (HZ4.out.drewN 1)) Tryz.underlying30 rfl (by kernel_rfl)) rfl ?_
    have q1 := HLT.out
    exact ⟨(⟨cd, x, y, al, L⟩, a1, er), r1, by rw [← HC.out]; exact HGG.out, HX.out, dec_fr (F4.out.drewN 1) (fr_setRow _ b2 _) ⟨q1.2.1, q1.2.2⟩ trivial, .inr ⟨he, (HS4.out.drewN 1).fr_ (fr_setRow _ b2 _) (by omega) (by omega) (by omega), rfl⟩⟩
end
end Go.Proofs.YtggfaalodojjkaaGreatDoor
