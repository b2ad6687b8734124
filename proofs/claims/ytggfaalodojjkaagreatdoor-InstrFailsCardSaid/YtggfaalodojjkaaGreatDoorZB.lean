/-
  instr's reader: op.
-/
import Derived.Test.YtggfaalodojjkaaGreatDoorZ8
import Derived.Test.YtggfaalodojjkaaGreatDoorZ9
import Derived.Test.YtggfaalodojjkaaGreatDoorZ7
import Derived.Test.YtggfaalodojjkaaGreatDoorZA
namespace Go.Proofs.YtggfaalodojjkaaGreatDoor
open Go.RowKit
set_option linter.unusedVariables false
set_option linter.unusedSimpArgs false
theorem results68 : Tryz.f68.results = #[.cell 2 61] := by kernel_rfl
theorem tb_fr {S : Nat → Prop} {w w' : World} (h : Tb w) (hf : Fr S w w') (h0 : ¬ S 0) : Tb w' := fun i hi => by
  have hb := hf.block 0 h.size h0
  have := h i hi
  simp only [World.cell?] at this ⊢
  rw [hb]; exact this
theorem tab_fr {S : Nat → Prop} {w w' : World} {g n m : Nat} {rows : List (List Int)} (h : Tab w g n m rows) (hf : Fr S w w') (h1 : ¬ S g) : Tab w' g n m rows := by
  obtain ⟨cs, t, fr, h2, h3⟩ := h
  exact ⟨cs, t, fr, hf.keep h2 h1, h3⟩
/-- the tables that a reader wants, and where it lies -/
def Ev (w : World) (f c R : Nat) : Prop := Tb w ∧ Tab w 1 13 2 forL ∧ 2 ≤ f ∧ 2 ≤ c ∧ 2 ≤ R
theorem Ev.fr_ {w w' : World} {f c R : Nat} (h : Ev w f c R) (hf : Fr (FR f c R) w w') : Ev w' f c R := by
  obtain ⟨h1, h2, h3, h4, h5⟩ := h
  exact ⟨tb_fr h1 hf (by rintro (e | e | e) <;> omega), tab_fr h2 hf (by rintro (e | e | e) <;> omega), h3, h4, h5⟩
theorem wrap_in (z : Int) : -9223372036854775808 ≤ IntKind.i64.wrap z ∧ IntKind.i64.wrap z ≤ 9223372036854775807 := by
  have h0 := Int.emod_nonneg z (show (18446744073709551616 : Int) ≠ 0 by decide)
  have h1 := Int.emod_lt_of_pos z (show (0 : Int) < 18446744073709551616 by decide)
  simp only [IntKind.wrap, IntKind.bits, IntKind.signed, Bool.true_and, decide_eq_true_eq, ge_iff_le, show (2 : Int) ^ 64 = 18446744073709551616 from rfl, show (2 : Int) ^ (64 - 1) = 9223372036854775808 from rfl]
  constructor <;> split <;> omega
section
variable {w w' : World} {f g c N : Nat} {l : List Nat} {fa : Int} {fr t R a0 m : Nat}
/-- what is known of the words of an op with a constant -/
def BitsOf (w : World) (I : Array Value) (fo : Int) : Prop := fo = 11 → ∀ V, Below w.heap.size w V → Calls Tryz.prog 33 #[.agg I] V fun e V' => ∃ bt : Int, (bt = 32 ∨ bt = 64) ∧ e = .returned (.int .i64 bt) ∧ Below V.heap.size V V'
/-- what op leaves -/
def OI (f g c N : Nat) (l : List Nat) (fr t R : Nat) (fa : Int) (a0 m : Nat) (w : World) (e : Ending) (w' : World) : Prop :=
  ∃ (cd : Int) (nm : ByteArray) (fo : Int) (At : Option Addr) (nt ct : Nat) (Ag : Option Addr) (ng cg : Nat), e = .returned (.agg #[.int .i64 cd, .string nm, .int .i64 fo, .slice At nt ct, .slice Ag ng cg]) ∧ RI f g c N l fr t R fa a0 m w' ∧ Fr (FR f c R) w w' ∧
    BitsOf w' #[.int .i64 cd, .string nm, .int .i64 fo, .slice At nt ct, .slice Ag ng cg] fo
/-- an info that stands: of what it is known -/
def InK (w : World) (B : Nat) (I : Array Value) (fo : Int) : Prop := fo = 11 → ∃ r i At ct Ag cg, r ∈ RW ∧ r.form = 11 ∧ InfAt w B r i At ct Ag cg ∧ I = infV r i At ct Ag cg
theorem InK.fr_ {S : Nat → Prop} {B : Nat} {I : Array Value} {fo : Int} (h : InK w B I fo) (hf : Fr S w w') (hS : ∀ q, B ≤ q → q < w.heap.size → ¬ S q) : InK w' B I fo := fun e => by
  obtain ⟨r, i, At, ct, Ag, cg, h1, h2, h3, h4⟩ := h e
  refine ⟨r, i, At, ct, Ag, cg, h1, h2, ⟨own_fr h3.1 hf (fun k hk => ?_), own_fr h3.2 hf (fun k hk => ?_)⟩, h4⟩
  · obtain ⟨cs, hcs⟩ := own_ty h3.1 hk
    exact hS k (by
      rcases h3.1.2 with ⟨e, _⟩ | ⟨g, cap, cur, e, hg, _⟩
      · rw [e] at hk; cases hk
      · rw [e] at hk; cases hk; exact hg) hcs.lt
  · obtain ⟨cs, hcs⟩ := own_ty h3.2 hk
    exact hS k (by
      rcases h3.2.2 with ⟨e, _⟩ | ⟨g, cap, cur, e, hg, _⟩
      · rw [e] at hk; cases hk
      · rw [e] at hk; cases hk; exact hg) hcs.lt
theorem InK.bits {B : Nat} {I : Array Value} {fo : Int} (h : InK w B I fo) : BitsOf w I fo := fun e V hV => by
  obtain ⟨r, i, At, ct, Ag, cg, h1, h2, h3, rfl⟩ := h e
  refine (bits_row r h1 h2 i B At ct Ag cg V (h3.below hV)).mono ?_
  rintro e w' ⟨rfl, hb⟩
  exact ⟨_, bt_row r h1 h2, rfl, hb⟩
theorem find_i (code : Int) (hc : (Lit.int .i64 code).wf = true) (W : World) (hT : Tb W) : Calls Tryz.prog 53 #[.int .i64 code] W fun e w' => ∃ (cd : Int) (nm : ByteArray) (fo : Int) (At : Option Addr) (nt ct : Nat) (Ag : Option Addr) (ng cg : Nat) (ok : Bool),
    e = .returned (.tuple #[.agg #[.int .i64 cd, .string nm, .int .i64 fo, .slice At nt ct, .slice Ag ng cg], .bool ok]) ∧ nt ≤ ct ∧ ct ≤ 9223372036854775807 ∧ ng ≤ cg ∧ cg ≤ 9223372036854775807 ∧ Below W.heap.size W w' ∧ InK w' W.heap.size #[.int .i64 cd, .string nm, .int .i64 fo, .slice At nt ct, .slice Ag ng cg] fo := by
  rcases Find_case code hc with ⟨r, i, ho, h⟩ | ⟨_, h⟩
  · refine (h W hT).mono ?_
    rintro e w' ⟨At, ct, Ag, cg, rfl, h1, h2, hb⟩
    have hI : InfAt w' W.heap.size r i At ct Ag cg := ⟨h1, h2⟩
    obtain ⟨q1, q2, q3, q4⟩ := hI.len
    refine ⟨_, _, _, At, _, ct, Ag, _, cg, true, rfl, q1, q2, q3, q4, hb, fun e => ⟨r, i, At, ct, Ag, cg, (mem_OPS.1 ho.1).1, by omega, hI, rfl⟩⟩
  · refine (h W hT).mono ?_
    rintro e w' ⟨rfl, hb⟩
    exact ⟨_, _, _, _, _, _, _, _, _, false, rfl, Nat.le_refl _, by omega, Nat.le_refl _, by omega, hb, fun e => by cases e⟩
end
end Go.Proofs.YtggfaalodojjkaaGreatDoor
/-
  instr's reader: op: the walk.
-/
namespace Go.Proofs.YtggfaalodojjkaaGreatDoor
open Go.RowKit
set_option linter.unusedVariables false
set_option linter.unusedSimpArgs false
section
variable {w w' : World} {f g c N : Nat} {l : List Nat} {fa : Int} {fr t R a0 m : Nat}
set_option maxHeartbeats 8000000 in
set_option maxRecDepth 100000 in
theorem op_i {r a : Nat} (h : RSt w f g c N l r fa fr t a R 0) (hr : (r : Int) ≤ fa) (h0 : 0 ≤ fa) (hm : r < 50000) (hx : ∀ z ∈ l, z < 256) (hE : Ev w f c R) : Calls Tryz.prog 68 #[.pointer (some ⟨R, 0, none⟩)] w (OI f g c N l fr t R fa (a + 1) (r + 12) w) := by
  obtain ⟨W0, hW0⟩ : ∃ V, V = w.alloc (.cells #[.int .i64 0, .string ⟨#[]⟩, .int .i64 0, .slice none 0 0, .slice none 0 0] 61) := ⟨_, rfl⟩
  obtain ⟨b2, hb2⟩ : ∃ x, x = w.heap.size := ⟨_, rfl⟩
  have hf0 : Fr (fun _ => False) w W0 := by rw [hW0]; exact (Fr.refl _ w).alloc _
  have hZ0 : Blk W0 b2 61 #[.int .i64 0, .string ⟨#[]⟩, .int .i64 0, .slice none 0 0, .slice none 0 0] := by rw [hW0, hb2]; exact Blk.new w 61 _
  have hR0 := h.new hf0
  have hlt : f < b2 ∧ g < b2 ∧ c < b2 ∧ R < b2 := by rw [hb2]; exact ⟨h.st.fl.blk.lt, h.st.fl.byt.lt, h.st.cu.lt, h.rd.lt⟩
  have HLT := Lib.hid hlt
  have HE := Lib.hid (fun w1 (q : Fr (FR f c R) W0 w1) => hE.fr_ ((hf0.more (fun q e => e.elim)).trans q))
  have HZ := Lib.hid (fun w1 (q : Fr (FR f c R) W0 w1) => hZ0.fr q (by rintro (e | e | e) <;> omega))
  have HW := Lib.hid hW0
  have HB := Lib.hid hb2
  have HF0 := Lib.hid hf0
  have HN1 := Lib.hid (first_i hR0 hr h0 (by omega) hx)
  have c0 : W0.cell? ⟨R, 0, none⟩ = some (.pointer (some ⟨c, 0, none⟩)) := hR0.rd.cell 0
  have HNum := Lib.hid (fun W2 (q : RI f g c N l fr t R fa (a + 1) (r + 1) W2) => number_i q h0 (by omega) 32)
  have HS0 : Hid (b2 < W0.heap.size) := Lib.hid hZ0.lt
  unfold WI at HNum
  unfold OI
  clear h hE hW0 hb2 hf0 hZ0 hR0 hlt
  go_enter Tryz.func68, Tryz.ntmps68
  go_upto_region 1 with fail
  rw [← HW.out, ← HB.out]
  go_upto_region 2 with (go_at_call 96; refine HN1.out.mono ?_; rintro e w1 ⟨x, rfl, hx2, q2, q3⟩; have H1 := Lib.hid q2; have F1 := Lib.hid q3; clear q2 q3 c0)
  by_cases hq : x = 252
  · subst hq
    go_upto_region 4 with (go_at_call 71; refine (HNum.out _ H1.out).mono ?_; rintro e w2 ⟨y, rfl, y1, y2, y3⟩; have H2 := Lib.hid y2; have F2 := Lib.hid (F1.out.trans y3); clear y2 y3)
    obtain ⟨code, hc0⟩ : ∃ z, z = wrap64 (64512 + wrap64 (y : Int)) := ⟨_, rfl⟩
    have hcode : (Lit.int .i64 code).wf = true := by rw [hc0]; exact RowKit.wrap64_wf _
    rw [← hc0]
    clear hc0
    have hEv := HE.out w2 F2.out
    have HFo := Lib.hid (Foreign_any code (bounds_i64 hcode) w2 hEv.2.1)
    clear hEv
    generalize decide (ForP code) = fb at HFo
    cases fb
    case false =>
      go_upto_region 6 with (go_at_call 98; refine HFo.out.mono ?_; rintro e w3 ⟨rfl, q⟩; have F3 := Lib.hid (F2.out.trans (Fr.of_below (S := FR f c R) q)); have H3 := Lib.hid (H2.out.new (Fr.of_below q)); clear q)
      have HFi := Lib.hid (find_i code hcode w3 (HE.out w3 F3.out).1)
      have HSX : Hid (b2 < w3.heap.size) := Lib.hid (Nat.lt_of_lt_of_le HS0.out F3.out.size)
      obtain ⟨BX, hBX⟩ : ∃ B, B = w3.heap.size := ⟨_, rfl⟩
      have HBX := Lib.hid hBX
      clear hBX
      go_upto_region 7 with (go_at_call 53; refine HFi.out.mono ?_; rintro e w5 ⟨cd, nm, fo, At, nt, ct, Ag, ng, cg, ok, rfl, k1, k2, k3, k4, kb, kI⟩; have K5 := Lib.hid kI; have B5 := Lib.hid kb; clear kI kb)
      obtain ⟨W6, hW6⟩ : ∃ V, V = w5.alloc (.cells #[.int .i64 cd, .string nm, .int .i64 fo, .slice At nt ct, .slice Ag ng cg] 61) := ⟨_, rfl⟩
      obtain ⟨b4, hb4⟩ : ∃ x, x = w5.heap.size := ⟨_, rfl⟩
      have h56 : Below w5.heap.size w5 W6 := by rw [hW6]; exact (Below.refl _ _).alloc (Nat.le_refl _) _
      have hI : Blk W6 b4 61 #[.int .i64 cd, .string nm, .int .i64 fo, .slice At nt ct, .slice Ag ng cg] := by rw [hW6, hb4]; exact Blk.new w5 61 _
      rw [← hb4, ← hW6]
      have F6 : Hid (Fr (FR f c R) W0 W6) := Lib.hid ((F3.out.trans (Fr.of_below B5.out)).trans (Fr.of_below h56))
      have H6 : Hid (RI f g c N l fr t R fa (a + 1) (r + 12) W6) := Lib.hid ((H3.out.new (Fr.of_below B5.out)).new (Fr.of_below h56))
      have K6 : Hid (InK W6 BX #[.int .i64 cd, .string nm, .int .i64 fo, .slice At nt ct, .slice Ag ng cg] fo) := Lib.hid (by rw [HBX.out]; exact K5.out.fr_ (Fr.of_below (S := fun _ => False) h56) (fun _ _ _ e => e))
      have HB4 : Hid (b2 < b4) := Lib.hid (by rw [hb4]; exact Nat.lt_of_lt_of_le HSX.out B5.out.size)
      have HC4 : Hid (∀ V, Fr (FR f c R) W6 V → V.cell? ⟨b4, 0, none⟩ = some (.int .i64 cd) ∧ V.cell? ⟨b4, 1, none⟩ = some (.string nm) ∧ V.cell? ⟨b4, 2, none⟩ = some (.int .i64 fo) ∧ V.cell? ⟨b4, 3, none⟩ = some (.slice At nt ct) ∧ V.cell? ⟨b4, 4, none⟩ = some (.slice Ag ng cg)) := Lib.hid (fun V hV => by
        have q1 := HLT.out
        have q2 := HB4.out
        have hi := hI.fr hV (by rintro (e | e | e) <;> omega)
        exact ⟨hi.cell 0, hi.cell 1, hi.cell 2, hi.cell 3, hi.cell 4⟩)
      clear h56 hI hW6 hb4
      have HKF : Hid (∀ V, Fr (FR f c R) W6 V → InK V BX #[.int .i64 cd, .string nm, .int .i64 fo, .slice At nt ct, .slice Ag ng cg] fo) := Lib.hid (fun V hV => K6.out.fr_ hV (fun q hq _ => by
        have q1 := HLT.out
        have q2 := HSX.out
        have q3 := HBX.out
        rintro (e | e | e) <;> omega))
      cases ok
      case false =>
        go_upto_region 9 with (go_at_call 99; refine (meet_i H6.out 4 (by decide) (by decide)).mono ?_; rintro e w7 ⟨rfl, p2, p3⟩; have H7 := Lib.hid p2; have P7 := Lib.hid p3; have F7 := Lib.hid (F6.out.trans p3); clear p2 p3)
        obtain ⟨z0, z1, z2, z3, z4⟩ := HC4.out w7 P7.out
        go_wp2_with (refine wpList_store61 rfl (.tmp 2) (.tmp 33) rfl b2 _ cd fo nm At Ag nt ct ng cg rfl rfl (HZ.out _ F7.out) (Lib.hid rfl) ?_)
        refine bodyPost_ret (v := .agg #[.int .i64 cd, .string nm, .int .i64 fo, .slice At nt ct, .slice Ag ng cg]) (results_cell_row results68 _ _ b2 61 _ (0, 0) _ rfl (setRow_heap _ b2 _ _ 61 (0, 0) (HZ.out _ F7.out)) Tryz.underlying61 rfl (by kernel_rfl)) rfl ?_
        have q1 := HLT.out
        refine ⟨cd, nm, fo, At, nt, ct, Ag, ng, cg, rfl, H7.out.fr_ (fr_setRow w7 b2 _) (by omega) (by omega) (by omega) (by omega), ((HF0.out.more (fun q e => e.elim)).trans F7.out).trans_new (fr_setRow w7 b2 _) (fun i e => .inr (by rw [e, HB.out]; exact Nat.le_refl _)), ((HKF.out w7 P7.out).fr_ (fr_setRow w7 b2 _) (fun q hq _ e => ?_)).bits⟩
        have q2 := HSX.out
        have q3 := HBX.out
        omega
      case true =>
        go_upto_region 9 with fail
        obtain ⟨z0, z1, z2, z3, z4⟩ := HC4.out W6 (Fr.refl _ _)
        go_wp2_with (refine wpList_store61 rfl (.tmp 2) (.tmp 33) rfl b2 _ cd fo nm At Ag nt ct ng cg rfl rfl (HZ.out _ F6.out) (Lib.hid rfl) ?_)
        refine bodyPost_ret (v := .agg #[.int .i64 cd, .string nm, .int .i64 fo, .slice At nt ct, .slice Ag ng cg]) (results_cell_row results68 _ _ b2 61 _ (0, 0) _ rfl (setRow_heap _ b2 _ _ 61 (0, 0) (HZ.out _ F6.out)) Tryz.underlying61 rfl (by kernel_rfl)) rfl ?_
        have q1 := HLT.out
        refine ⟨cd, nm, fo, At, nt, ct, Ag, ng, cg, rfl, H6.out.fr_ (fr_setRow W6 b2 _) (by omega) (by omega) (by omega) (by omega), ((HF0.out.more (fun q e => e.elim)).trans F6.out).trans_new (fr_setRow W6 b2 _) (fun i e => .inr (by rw [e, HB.out]; exact Nat.le_refl _)), ((HKF.out W6 (Fr.refl _ _)).fr_ (fr_setRow W6 b2 _) (fun q hq _ e => ?_)).bits⟩
        have q2 := HSX.out
        have q3 := HBX.out
        omega
    case true =>
      go_upto_region 6 with (first
        | (go_at_call 98; refine HFo.out.mono ?_; rintro e w3 ⟨rfl, q⟩; have F3 := Lib.hid (F2.out.trans (Fr.of_below (S := FR f c R) q)); have H3 := Lib.hid (H2.out.new (Fr.of_below q)); clear q)
        | (go_at_call 99; refine (meet_i H3.out 6 (by decide) (by decide)).mono ?_; rintro e w4 ⟨rfl, p2, p3⟩; have H4 := Lib.hid p2; have F4 := Lib.hid (F3.out.trans p3); clear p2 p3))
      have HFi := Lib.hid (find_i code hcode w4 (HE.out w4 F4.out).1)
      have HSX : Hid (b2 < w4.heap.size) := Lib.hid (Nat.lt_of_lt_of_le HS0.out F4.out.size)
      obtain ⟨BX, hBX⟩ : ∃ B, B = w4.heap.size := ⟨_, rfl⟩
      have HBX := Lib.hid hBX
      clear hBX
      go_upto_region 7 with (go_at_call 53; refine HFi.out.mono ?_; rintro e w5 ⟨cd, nm, fo, At, nt, ct, Ag, ng, cg, ok, rfl, k1, k2, k3, k4, kb, kI⟩; have K5 := Lib.hid kI; have B5 := Lib.hid kb; clear kI kb)
      obtain ⟨W6, hW6⟩ : ∃ V, V = w5.alloc (.cells #[.int .i64 cd, .string nm, .int .i64 fo, .slice At nt ct, .slice Ag ng cg] 61) := ⟨_, rfl⟩
      obtain ⟨b4, hb4⟩ : ∃ x, x = w5.heap.size := ⟨_, rfl⟩
      have h56 : Below w5.heap.size w5 W6 := by rw [hW6]; exact (Below.refl _ _).alloc (Nat.le_refl _) _
      have hI : Blk W6 b4 61 #[.int .i64 cd, .string nm, .int .i64 fo, .slice At nt ct, .slice Ag ng cg] := by rw [hW6, hb4]; exact Blk.new w5 61 _
      rw [← hb4, ← hW6]
      have F6 : Hid (Fr (FR f c R) W0 W6) := Lib.hid ((F4.out.trans (Fr.of_below B5.out)).trans (Fr.of_below h56))
      have H6 : Hid (RI f g c N l fr t R fa (a + 1) (r + 12) W6) := Lib.hid ((H4.out.new (Fr.of_below B5.out)).new (Fr.of_below h56))
      have K6 : Hid (InK W6 BX #[.int .i64 cd, .string nm, .int .i64 fo, .slice At nt ct, .slice Ag ng cg] fo) := Lib.hid (by rw [HBX.out]; exact K5.out.fr_ (Fr.of_below (S := fun _ => False) h56) (fun _ _ _ e => e))
      have HB4 : Hid (b2 < b4) := Lib.hid (by rw [hb4]; exact Nat.lt_of_lt_of_le HSX.out B5.out.size)
      have HC4 : Hid (∀ V, Fr (FR f c R) W6 V → V.cell? ⟨b4, 0, none⟩ = some (.int .i64 cd) ∧ V.cell? ⟨b4, 1, none⟩ = some (.string nm) ∧ V.cell? ⟨b4, 2, none⟩ = some (.int .i64 fo) ∧ V.cell? ⟨b4, 3, none⟩ = some (.slice At nt ct) ∧ V.cell? ⟨b4, 4, none⟩ = some (.slice Ag ng cg)) := Lib.hid (fun V hV => by
        have q1 := HLT.out
        have q2 := HB4.out
        have hi := hI.fr hV (by rintro (e | e | e) <;> omega)
        exact ⟨hi.cell 0, hi.cell 1, hi.cell 2, hi.cell 3, hi.cell 4⟩)
      clear h56 hI hW6 hb4
      have HKF : Hid (∀ V, Fr (FR f c R) W6 V → InK V BX #[.int .i64 cd, .string nm, .int .i64 fo, .slice At nt ct, .slice Ag ng cg] fo) := Lib.hid (fun V hV => K6.out.fr_ hV (fun q hq _ => by
        have q1 := HLT.out
        have q2 := HSX.out
        have q3 := HBX.out
        rintro (e | e | e) <;> omega))
      cases ok
      case false =>
        go_upto_region 9 with (go_at_call 99; refine (meet_i H6.out 4 (by decide) (by decide)).mono ?_; rintro e w7 ⟨rfl, p2, p3⟩; have H7 := Lib.hid p2; have P7 := Lib.hid p3; have F7 := Lib.hid (F6.out.trans p3); clear p2 p3)
        obtain ⟨z0, z1, z2, z3, z4⟩ := HC4.out w7 P7.out
        go_wp2_with (refine wpList_store61 rfl (.tmp 2) (.tmp 33) rfl b2 _ cd fo nm At Ag nt ct ng cg rfl rfl (HZ.out _ F7.out) (Lib.hid rfl) ?_)
        refine bodyPost_ret (v := .agg #[.int .i64 cd, .string nm, .int .i64 fo, .slice At nt ct, .slice Ag ng cg]) (results_cell_row results68 _ _ b2 61 _ (0, 0) _ rfl (setRow_heap _ b2 _ _ 61 (0, 0) (HZ.out _ F7.out)) Tryz.underlying61 rfl (by kernel_rfl)) rfl ?_
        have q1 := HLT.out
        refine ⟨cd, nm, fo, At, nt, ct, Ag, ng, cg, rfl, H7.out.fr_ (fr_setRow w7 b2 _) (by omega) (by omega) (by omega) (by omega), ((HF0.out.more (fun q e => e.elim)).trans F7.out).trans_new (fr_setRow w7 b2 _) (fun i e => .inr (by rw [e, HB.out]; exact Nat.le_refl _)), ((HKF.out w7 P7.out).fr_ (fr_setRow w7 b2 _) (fun q hq _ e => ?_)).bits⟩
        have q2 := HSX.out
        have q3 := HBX.out
        omega
      case true =>
        go_upto_region 9 with fail
        obtain ⟨z0, z1, z2, z3, z4⟩ := HC4.out W6 (Fr.refl _ _)
        go_wp2_with (refine wpList_store61 rfl (.tmp 2) (.tmp 33) rfl b2 _ cd fo nm At Ag nt ct ng cg rfl rfl (HZ.out _ F6.out) (Lib.hid rfl) ?_)
        refine bodyPost_ret (v := .agg #[.int .i64 cd, .string nm, .int .i64 fo, .slice At nt ct, .slice Ag ng cg]) (results_cell_row results68 _ _ b2 61 _ (0, 0) _ rfl (setRow_heap _ b2 _ _ 61 (0, 0) (HZ.out _ F6.out)) Tryz.underlying61 rfl (by kernel_rfl)) rfl ?_
        have q1 := HLT.out
        refine ⟨cd, nm, fo, At, nt, ct, Ag, ng, cg, rfl, H6.out.fr_ (fr_setRow W6 b2 _) (by omega) (by omega) (by omega) (by omega), ((HF0.out.more (fun q e => e.elim)).trans F6.out).trans_new (fr_setRow W6 b2 _) (fun i e => .inr (by rw [e, HB.out]; exact Nat.le_refl _)), ((HKF.out W6 (Fr.refl _ _)).fr_ (fr_setRow W6 b2 _) (fun q hq _ e => ?_)).bits⟩
        have q2 := HSX.out
        have q3 := HBX.out
        omega
  · have hq2 : ((x : Int) == 252) = false := by rw [beq_eq_false_iff_ne]; omega
    go_upto_region 4 with fail
    obtain ⟨code, hc0⟩ : ∃ z, z = (x : Int) := ⟨_, rfl⟩
    have hcode : (Lit.int .i64 code).wf = true := by rw [hc0]; simp [Lit.wf, IntKind.min, IntKind.max, IntKind.signed, IntKind.bits]; omega
    rw [← hc0]
    rw [← hc0] at hq2
    have H2 := Lib.hid (H1.out.more (show r + 1 ≤ r + 12 by omega))
    clear hc0
    have hEv := HE.out w1 F1.out
    have HFo := Lib.hid (Foreign_any code (bounds_i64 hcode) w1 hEv.2.1)
    clear hEv
    generalize decide (ForP code) = fb at HFo
    cases fb
    case false =>
      go_upto_region 6 with (go_at_call 98; refine HFo.out.mono ?_; rintro e w3 ⟨rfl, q⟩; have F3 := Lib.hid (F1.out.trans (Fr.of_below (S := FR f c R) q)); have H3 := Lib.hid (H2.out.new (Fr.of_below q)); clear q)
      have HFi := Lib.hid (find_i code hcode w3 (HE.out w3 F3.out).1)
      have HSX : Hid (b2 < w3.heap.size) := Lib.hid (Nat.lt_of_lt_of_le HS0.out F3.out.size)
      obtain ⟨BX, hBX⟩ : ∃ B, B = w3.heap.size := ⟨_, rfl⟩
      have HBX := Lib.hid hBX
      clear hBX
      go_upto_region 7 with (go_at_call 53; refine HFi.out.mono ?_; rintro e w5 ⟨cd, nm, fo, At, nt, ct, Ag, ng, cg, ok, rfl, k1, k2, k3, k4, kb, kI⟩; have K5 := Lib.hid kI; have B5 := Lib.hid kb; clear kI kb)
      obtain ⟨W6, hW6⟩ : ∃ V, V = w5.alloc (.cells #[.int .i64 cd, .string nm, .int .i64 fo, .slice At nt ct, .slice Ag ng cg] 61) := ⟨_, rfl⟩
      obtain ⟨b4, hb4⟩ : ∃ x, x = w5.heap.size := ⟨_, rfl⟩
      have h56 : Below w5.heap.size w5 W6 := by rw [hW6]; exact (Below.refl _ _).alloc (Nat.le_refl _) _
      have hI : Blk W6 b4 61 #[.int .i64 cd, .string nm, .int .i64 fo, .slice At nt ct, .slice Ag ng cg] := by rw [hW6, hb4]; exact Blk.new w5 61 _
      rw [← hb4, ← hW6]
      have F6 : Hid (Fr (FR f c R) W0 W6) := Lib.hid ((F3.out.trans (Fr.of_below B5.out)).trans (Fr.of_below h56))
      have H6 : Hid (RI f g c N l fr t R fa (a + 1) (r + 12) W6) := Lib.hid ((H3.out.new (Fr.of_below B5.out)).new (Fr.of_below h56))
      have K6 : Hid (InK W6 BX #[.int .i64 cd, .string nm, .int .i64 fo, .slice At nt ct, .slice Ag ng cg] fo) := Lib.hid (by rw [HBX.out]; exact K5.out.fr_ (Fr.of_below (S := fun _ => False) h56) (fun _ _ _ e => e))
      have HB4 : Hid (b2 < b4) := Lib.hid (by rw [hb4]; exact Nat.lt_of_lt_of_le HSX.out B5.out.size)
      have HC4 : Hid (∀ V, Fr (FR f c R) W6 V → V.cell? ⟨b4, 0, none⟩ = some (.int .i64 cd) ∧ V.cell? ⟨b4, 1, none⟩ = some (.string nm) ∧ V.cell? ⟨b4, 2, none⟩ = some (.int .i64 fo) ∧ V.cell? ⟨b4, 3, none⟩ = some (.slice At nt ct) ∧ V.cell? ⟨b4, 4, none⟩ = some (.slice Ag ng cg)) := Lib.hid (fun V hV => by
        have q1 := HLT.out
        have q2 := HB4.out
        have hi := hI.fr hV (by rintro (e | e | e) <;> omega)
        exact ⟨hi.cell 0, hi.cell 1, hi.cell 2, hi.cell 3, hi.cell 4⟩)
      clear h56 hI hW6 hb4
      have HKF : Hid (∀ V, Fr (FR f c R) W6 V → InK V BX #[.int .i64 cd, .string nm, .int .i64 fo, .slice At nt ct, .slice Ag ng cg] fo) := Lib.hid (fun V hV => K6.out.fr_ hV (fun q hq _ => by
        have q1 := HLT.out
        have q2 := HSX.out
        have q3 := HBX.out
        rintro (e | e | e) <;> omega))
      cases ok
      case false =>
        go_upto_region 9 with (go_at_call 99; refine (meet_i H6.out 4 (by decide) (by decide)).mono ?_; rintro e w7 ⟨rfl, p2, p3⟩; have H7 := Lib.hid p2; have P7 := Lib.hid p3; have F7 := Lib.hid (F6.out.trans p3); clear p2 p3)
        obtain ⟨z0, z1, z2, z3, z4⟩ := HC4.out w7 P7.out
        go_wp2_with (refine wpList_store61 rfl (.tmp 2) (.tmp 33) rfl b2 _ cd fo nm At Ag nt ct ng cg rfl rfl (HZ.out _ F7.out) (Lib.hid rfl) ?_)
        refine bodyPost_ret (v := .agg #[.int .i64 cd, .string nm, .int .i64 fo, .slice At nt ct, .slice Ag ng cg]) (results_cell_row results68 _ _ b2 61 _ (0, 0) _ rfl (setRow_heap _ b2 _ _ 61 (0, 0) (HZ.out _ F7.out)) Tryz.underlying61 rfl (by kernel_rfl)) rfl ?_
        have q1 := HLT.out
        refine ⟨cd, nm, fo, At, nt, ct, Ag, ng, cg, rfl, H7.out.fr_ (fr_setRow w7 b2 _) (by omega) (by omega) (by omega) (by omega), ((HF0.out.more (fun q e => e.elim)).trans F7.out).trans_new (fr_setRow w7 b2 _) (fun i e => .inr (by rw [e, HB.out]; exact Nat.le_refl _)), ((HKF.out w7 P7.out).fr_ (fr_setRow w7 b2 _) (fun q hq _ e => ?_)).bits⟩
        have q2 := HSX.out
        have q3 := HBX.out
        omega
      case true =>
        go_upto_region 9 with fail
        obtain ⟨z0, z1, z2, z3, z4⟩ := HC4.out W6 (Fr.refl _ _)
        go_wp2_with (refine wpList_store61 rfl (.tmp 2) (.tmp 33) rfl b2 _ cd fo nm At Ag nt ct ng cg rfl rfl (HZ.out _ F6.out) (Lib.hid rfl) ?_)
        refine bodyPost_ret (v := .agg #[.int .i64 cd, .string nm, .int .i64 fo, .slice At nt ct, .slice Ag ng cg]) (results_cell_row results68 _ _ b2 61 _ (0, 0) _ rfl (setRow_heap _ b2 _ _ 61 (0, 0) (HZ.out _ F6.out)) Tryz.underlying61 rfl (by kernel_rfl)) rfl ?_
        have q1 := HLT.out
        refine ⟨cd, nm, fo, At, nt, ct, Ag, ng, cg, rfl, H6.out.fr_ (fr_setRow W6 b2 _) (by omega) (by omega) (by omega) (by omega), ((HF0.out.more (fun q e => e.elim)).trans F6.out).trans_new (fr_setRow W6 b2 _) (fun i e => .inr (by rw [e, HB.out]; exact Nat.le_refl _)), ((HKF.out W6 (Fr.refl _ _)).fr_ (fr_setRow W6 b2 _) (fun q hq _ e => ?_)).bits⟩
        have q2 := HSX.out
        have q3 := HBX.out
        omega
    case true =>
      go_upto_region 6 with (first
        | (go_at_call 98; refine HFo.out.mono ?_; rintro e w3 ⟨rfl, q⟩; have F3 := Lib.hid (F1.out.trans (Fr.of_below (S := FR f c R) q)); have H3 := Lib.hid (H2.out.new (Fr.of_below q)); clear q)
        | (go_at_call 99; refine (meet_i H3.out 6 (by decide) (by decide)).mono ?_; rintro e w4 ⟨rfl, p2, p3⟩; have H4 := Lib.hid p2; have F4 := Lib.hid (F3.out.trans p3); clear p2 p3))
      have HFi := Lib.hid (find_i code hcode w4 (HE.out w4 F4.out).1)
      have HSX : Hid (b2 < w4.heap.size) := Lib.hid (Nat.lt_of_lt_of_le HS0.out F4.out.size)
      obtain ⟨BX, hBX⟩ : ∃ B, B = w4.heap.size := ⟨_, rfl⟩
      have HBX := Lib.hid hBX
      clear hBX
      go_upto_region 7 with (go_at_call 53; refine HFi.out.mono ?_; rintro e w5 ⟨cd, nm, fo, At, nt, ct, Ag, ng, cg, ok, rfl, k1, k2, k3, k4, kb, kI⟩; have K5 := Lib.hid kI; have B5 := Lib.hid kb; clear kI kb)
      obtain ⟨W6, hW6⟩ : ∃ V, V = w5.alloc (.cells #[.int .i64 cd, .string nm, .int .i64 fo, .slice At nt ct, .slice Ag ng cg] 61) := ⟨_, rfl⟩
      obtain ⟨b4, hb4⟩ : ∃ x, x = w5.heap.size := ⟨_, rfl⟩
      have h56 : Below w5.heap.size w5 W6 := by rw [hW6]; exact (Below.refl _ _).alloc (Nat.le_refl _) _
      have hI : Blk W6 b4 61 #[.int .i64 cd, .string nm, .int .i64 fo, .slice At nt ct, .slice Ag ng cg] := by rw [hW6, hb4]; exact Blk.new w5 61 _
      rw [← hb4, ← hW6]
      have F6 : Hid (Fr (FR f c R) W0 W6) := Lib.hid ((F4.out.trans (Fr.of_below B5.out)).trans (Fr.of_below h56))
      have H6 : Hid (RI f g c N l fr t R fa (a + 1) (r + 12) W6) := Lib.hid ((H4.out.new (Fr.of_below B5.out)).new (Fr.of_below h56))
      have K6 : Hid (InK W6 BX #[.int .i64 cd, .string nm, .int .i64 fo, .slice At nt ct, .slice Ag ng cg] fo) := Lib.hid (by rw [HBX.out]; exact K5.out.fr_ (Fr.of_below (S := fun _ => False) h56) (fun _ _ _ e => e))
      have HB4 : Hid (b2 < b4) := Lib.hid (by rw [hb4]; exact Nat.lt_of_lt_of_le HSX.out B5.out.size)
      have HC4 : Hid (∀ V, Fr (FR f c R) W6 V → V.cell? ⟨b4, 0, none⟩ = some (.int .i64 cd) ∧ V.cell? ⟨b4, 1, none⟩ = some (.string nm) ∧ V.cell? ⟨b4, 2, none⟩ = some (.int .i64 fo) ∧ V.cell? ⟨b4, 3, none⟩ = some (.slice At nt ct) ∧ V.cell? ⟨b4, 4, none⟩ = some (.slice Ag ng cg)) := Lib.hid (fun V hV => by
        have q1 := HLT.out
        have q2 := HB4.out
        have hi := hI.fr hV (by rintro (e | e | e) <;> omega)
        exact ⟨hi.cell 0, hi.cell 1, hi.cell 2, hi.cell 3, hi.cell 4⟩)
      clear h56 hI hW6 hb4
      have HKF : Hid (∀ V, Fr (FR f c R) W6 V → InK V BX #[.int .i64 cd, .string nm, .int .i64 fo, .slice At nt ct, .slice Ag ng cg] fo) := Lib.hid (fun V hV => K6.out.fr_ hV (fun q hq _ => by
        have q1 := HLT.out
        have q2 := HSX.out
        have q3 := HBX.out
        rintro (e | e | e) <;> omega))
      cases ok
      case false =>
        go_upto_region 9 with (go_at_call 99; refine (meet_i H6.out 4 (by decide) (by decide)).mono ?_; rintro e w7 ⟨rfl, p2, p3⟩; have H7 := Lib.hid p2; have P7 := Lib.hid p3; have F7 := Lib.hid (F6.out.trans p3); clear p2 p3)
        obtain ⟨z0, z1, z2, z3, z4⟩ := HC4.out w7 P7.out
        go_wp2_with (refine wpList_store61 rfl (.tmp 2) (.tmp 33) rfl b2 _ cd fo nm At Ag nt ct ng cg rfl rfl (HZ.out _ F7.out) (Lib.hid rfl) ?_)
        refine bodyPost_ret (v := .agg #[.int .i64 cd, .string nm, .int .i64 fo, .slice At nt ct, .slice Ag ng cg]) (results_cell_row results68 _ _ b2 61 _ (0, 0) _ rfl (setRow_heap _ b2 _ _ 61 (0, 0) (HZ.out _ F7.out)) Tryz.underlying61 rfl (by kernel_rfl)) rfl ?_
        have q1 := HLT.out
        refine ⟨cd, nm, fo, At, nt, ct, Ag, ng, cg, rfl, H7.out.fr_ (fr_setRow w7 b2 _) (by omega) (by omega) (by omega) (by omega), ((HF0.out.more (fun q e => e.elim)).trans F7.out).trans_new (fr_setRow w7 b2 _) (fun i e => .inr (by rw [e, HB.out]; exact Nat.le_refl _)), ((HKF.out w7 P7.out).fr_ (fr_setRow w7 b2 _) (fun q hq _ e => ?_)).bits⟩
        have q2 := HSX.out
        have q3 := HBX.out
        omega
      case true =>
        go_upto_region 9 with fail
        obtain ⟨z0, z1, z2, z3, z4⟩ := HC4.out W6 (Fr.refl _ _)
        go_wp2_with (refine wpList_store61 rfl (.tmp 2) (.tmp 33) rfl b2 _ cd fo nm At Ag nt ct ng cg rfl rfl (HZ.out _ F6.out) (Lib.hid rfl) ?_)
        refine bodyPost_ret (v := .agg #[.int .i64 cd, .string nm, .int .i64 fo, .slice At nt ct, .slice Ag ng cg]) (results_cell_row results68 _ _ b2 61 _ (0, 0) _ rfl (setRow_heap _ b2 _ _ 61 (0, 0) (HZ.out _ F6.out)) Tryz.underlying61 rfl (by kernel_rfl)) rfl ?_
        have q1 := HLT.out
        refine ⟨cd, nm, fo, At, nt, ct, Ag, ng, cg, rfl, H6.out.fr_ (fr_setRow W6 b2 _) (by omega) (by omega) (by omega) (by omega), ((HF0.out.more (fun q e => e.elim)).trans F6.out).trans_new (fr_setRow W6 b2 _) (fun i e => .inr (by rw [e, HB.out]; exact Nat.le_refl _)), ((HKF.out W6 (Fr.refl _ _)).fr_ (fr_setRow W6 b2 _) (fun q hq _ e => ?_)).bits⟩
        have q2 := HSX.out
        have q3 := HBX.out
        omega
end
end Go.Proofs.YtggfaalodojjkaaGreatDoor
/-
  instr's reader: instr.
-/
namespace Go.Proofs.YtggfaalodojjkaaGreatDoor
open Go.RowKit
set_option linter.unusedVariables false
set_option linter.unusedSimpArgs false
theorem results41 : Tryz.f41.results = #[.cell 2 30] := by kernel_rfl
section
variable {w w' V V' : World} {f g c N : Nat} {l : List Nat} {fa : Int} {fr t R a0 m m' b2 b4 : Nat} {cs : Array Value}
/-- an instruction that is being read: its block, the block of what will be answered, and the reader -/
structure IS (w V : World) (f g c N : Nat) (l : List Nat) (fr t R : Nat) (fa : Int) (a0 m b2 b4 : Nat) (cs : Array Value) : Prop where
  ri : RI f g c N l fr t R fa a0 m V
  z : Blk V b2 30 #[.int .i64 0, .int .u64 0, .int .u64 0, .int .i64 0, .slice none 0 0]
  x : Blk V b4 30 cs
  fr_ : Fr (FR f c R) w V
  lt : f < b2 ∧ g < b2 ∧ c < b2 ∧ R < b2 ∧ b2 < b4 ∧ b2 = w.heap.size
theorem IS.call (h : IS w V f g c N l fr t R fa a0 m b2 b4 cs) (ri : RI f g c N l fr t R fa a0 m' V') (hf : Fr (FR f c R) V V') : IS w V' f g c N l fr t R fa a0 m' b2 b4 cs := by
  obtain ⟨h1, h2, h3, h4, h5⟩ := h
  exact ⟨ri, h2.fr hf (by rintro (e | e | e) <;> omega), h3.fr hf (by rintro (e | e | e) <;> omega), h4.trans hf, h5⟩
theorem IS.below (h : IS w V f g c N l fr t R fa a0 m b2 b4 cs) (hb : Below V.heap.size V V') : IS w V' f g c N l fr t R fa a0 m b2 b4 cs := h.call (h.ri.new (Fr.of_below hb)) (Fr.of_below hb)
theorem IS.set_ (h : IS w V f g c N l fr t R fa a0 m b2 b4 cs) (i : Nat) (u : Value) : IS w (V.setCell ⟨b4, i, none⟩ u) f g c N l fr t R fa a0 m b2 b4 (cs.setIfInBounds i u) := by
  obtain ⟨h1, h2, h3, h4, h5⟩ := h
  have hf : Fr (fun q => q = b4) V (V.setCell ⟨b4, i, none⟩ u) := (Fr.refl (fun q => q = b4) V).set_ (p := ⟨b4, i, none⟩) rfl _
  exact ⟨h1.fr_ hf (by omega) (by omega) (by omega) (by omega), h2.fr hf (by omega), h3.set_ i u, h4.trans_new hf (fun q e => .inr (by omega)), h5⟩
/-- what instr leaves -/
def InI (f g c N : Nat) (l : List Nat) (fr t R : Nat) (fa : Int) (a0 m : Nat) (w : World) (e : Ending) (w' : World) : Prop :=
  ∃ (cd : Int) (x y : Nat) (al : Int) (A : Option Addr) (n cp : Nat), e = .returned (.agg #[.int .i64 cd, .int .u64 x, .int .u64 y, .int .i64 al, .slice A n cp]) ∧ RI f g c N l fr t R fa a0 m w' ∧ Fr (FR f c R) w w'
theorem IS.done {cd al : Int} {x y n cp : Nat} {A : Option Addr} (h : IS w V f g c N l fr t R fa a0 m b2 b4 cs) (hm : m ≤ m') : InI f g c N l fr t R fa a0 m' w (.returned (.agg #[.int .i64 cd, .int .u64 x, .int .u64 y, .int .i64 al, .slice A n cp])) (V.setRow b2 #[.int .i64 cd, .int .u64 x, .int .u64 y, .int .i64 al, .slice A n cp]) := by
  obtain ⟨h1, h2, h3, h4, h5⟩ := h
  exact ⟨cd, x, y, al, A, n, cp, rfl, (h1.more hm).fr_ (fr_setRow V b2 _) (by omega) (by omega) (by omega) (by omega), h4.trans_new (fr_setRow V b2 _) (fun i e => .inr (by omega))⟩
set_option maxHeartbeats 8000000 in
set_option maxRecDepth 100000 in
theorem instr_i {r a : Nat} (h : RSt w f g c N l r fa fr t a R 0) (hr : (r : Int) ≤ fa) (h0 : 0 ≤ fa) (hm : r < 30000) (hx : ∀ z ∈ l, z < 256) (hE : Ev w f c R) : Calls Tryz.prog 41 #[.pointer (some ⟨R, 0, none⟩)] w (InI f g c N l fr t R fa (a + 1) (r + 3000) w) := by
  obtain ⟨W0, hW0⟩ : ∃ V, V = w.alloc (.cells #[.int .i64 0, .int .u64 0, .int .u64 0, .int .i64 0, .slice none 0 0] 30) := ⟨_, rfl⟩
  obtain ⟨b2, hb2⟩ : ∃ x, x = w.heap.size := ⟨_, rfl⟩
  have hf0 : Fr (fun _ => False) w W0 := by rw [hW0]; exact (Fr.refl _ w).alloc _
  have hZ0 : Blk W0 b2 30 #[.int .i64 0, .int .u64 0, .int .u64 0, .int .i64 0, .slice none 0 0] := by rw [hW0, hb2]; exact Blk.new w 30 _
  have hR0 := h.new hf0
  have hlt : f < b2 ∧ g < b2 ∧ c < b2 ∧ R < b2 := by rw [hb2]; exact ⟨h.st.fl.blk.lt, h.st.fl.byt.lt, h.st.cu.lt, h.rd.lt⟩
  have HOp := Lib.hid (op_i hR0 hr h0 (by omega) hx (hE.fr_ (hf0.more (fun q e => e.elim))))
  have HS1 : Hid (∀ w1 m1, RI f g c N l fr t R fa (a + 1) m1 w1 → Fr (FR f c R) W0 w1 → ∀ (o3 : Array Value) (cs : Array Value), IS w ((w1.alloc (.cells o3 61)).alloc (.cells cs 30)) f g c N l fr t R fa (a + 1) m1 b2 (w1.heap.size + 1) cs) := Lib.hid (fun w1 m1 q1 q2 o3 cs => by
    have hs := q2.size
    have hz := hZ0.fr q2 (by rintro (e | e | e) <;> omega)
    have hz2 := hZ0.lt
    have hn : Fr (fun _ => False) w1 ((w1.alloc (.cells o3 61)).alloc (.cells cs 30)) := ((Fr.refl _ w1).alloc _).alloc _
    refine ⟨q1.new hn, (hz.alloc _).alloc _, heap2 w1 _ _, ((hf0.more (fun q e => e.elim)).trans q2).trans (hn.more (fun q e => e.elim)), by omega, by omega, by omega, by omega, by omega, hb2⟩)
  have HNum := Lib.hid (fun W2 (m2 : Nat) (q : RI f g c N l fr t R fa (a + 1) m2 W2) (q2 : m2 < 100000) => number_i q h0 q2 32)
  have HBl := Lib.hid (fun W2 (m2 : Nat) (q : RI f g c N l fr t R fa (a + 1) m2 W2) (q2 : m2 < 100000) => block_i q h0 q2 hx)
  have HLa := Lib.hid (fun W2 (m2 : Nat) (q : RI f g c N l fr t R fa (a + 1) m2 W2) (q2 : m2 < 50000) => labels_i q h0 q2)
  have HAc := Lib.hid (fun W2 (m2 : Nat) (q : RI f g c N l fr t R fa (a + 1) m2 W2) (q2 : m2 < 50000) => access_i q h0 q2)
  have HWd := Lib.hid (fun W2 (m2 : Nat) (k : Int) (q : RI f g c N l fr t R fa (a + 1) m2 W2) (q2 : m2 < 100000) (hk : k = 32 ∨ k = 64) => word_i q h0 q2 k hk)
  have HW := Lib.hid hW0
  have HB := Lib.hid hb2
  unfold WI at HNum HBl HWd
  unfold LI at HLa
  unfold AI at HAc
  unfold OI at HOp
  clear h hE hW0 hb2 hf0 hZ0 hR0 hlt
  go_enter Tryz.func41, Tryz.ntmps41
  go_upto_region 1 with fail
  rw [← HW.out, ← HB.out]
  go_upto_region 2 with (go_at_call 68; refine HOp.out.mono ?_; rintro e w1 ⟨cd, nm, fo, At, nt, ct, Ag, ng, cg, rfl, q2, q3, q4⟩; have HS := Lib.hid (HS1.out w1 _ q2 q3 #[.int .i64 cd, .string nm, .int .i64 fo, .slice At nt ct, .slice Ag ng cg] #[.int .i64 cd, .int .u64 0, .int .u64 0, .int .i64 0, .slice none 0 0]); have HBi := Lib.hid q4; clear q2 q3 q4)
  go_upto_region 3 with fail
  obtain ⟨W6, hW6⟩ : ∃ V, V = (w1.alloc (.cells #[.int .i64 cd, .string nm, .int .i64 fo, .slice At nt ct, .slice Ag ng cg] 61)).alloc (.cells #[.int .i64 cd, .int .u64 0, .int .u64 0, .int .i64 0, .slice none 0 0] 30) := ⟨_, rfl⟩
  obtain ⟨b4, hb4⟩ : ∃ x, x = w1.heap.size + 1 := ⟨_, rfl⟩
  obtain ⟨b3, hb3⟩ : ∃ x, x = w1.heap.size := ⟨_, rfl⟩
  have hI : Blk W6 b3 61 #[.int .i64 cd, .string nm, .int .i64 fo, .slice At nt ct, .slice Ag ng cg] := by rw [hW6, hb3]; exact (Blk.new w1 61 _).alloc _
  have hB6 : Below w1.heap.size w1 W6 := by rw [hW6]; exact ((Below.refl _ _).alloc (Nat.le_refl _) _).alloc (by simp) _
  rw [← hW6, ← hb4] at HS
  have HI : Hid (∀ V, Below W6.heap.size W6 V → Blk V b3 61 #[.int .i64 cd, .string nm, .int .i64 fo, .slice At nt ct, .slice Ag ng cg]) := Lib.hid (fun V hV => hI.below hV hI.lt)
  have HB6 := Lib.hid hB6
  first | rw [← hb4] | skip
  first | rw [← hb3] | skip
  first | rw [← hW6] | skip
  have i0 := hI.cell 0
  have i1 := hI.cell 1
  have i2 := hI.cell 2
  have i3 := hI.cell 3
  have i4 := hI.cell 4
  simp only [List.getElem?_toArray, List.getElem?_cons_zero, List.getElem?_cons_succ] at i0 i1 i2 i3 i4
  clear hI hB6 hW6 hb4 hb3
  by_cases h0 : fo = 0
  · subst h0
    go_upto_region 19 with fail
    have fx0 : W6.cell? ⟨b4, 0, none⟩ = some (.int .i64 cd) := HS.out.x.cell 0
    have fx1 : W6.cell? ⟨b4, 1, none⟩ = some (.int .u64 ((0 : Nat) : Int)) := HS.out.x.cell 1
    have fx2 : W6.cell? ⟨b4, 2, none⟩ = some (.int .u64 ((0 : Nat) : Int)) := HS.out.x.cell 2
    have fx3 : W6.cell? ⟨b4, 3, none⟩ = some (.int .i64 0) := HS.out.x.cell 3
    have fx4 : W6.cell? ⟨b4, 4, none⟩ = some (.slice none 0 0) := HS.out.x.cell 4
    go_wp2_with (refine wpList_store_row rfl 30 (.tmp 2) (.tmp 57) rfl b2 #[.int .i64 cd, .int .u64 ((0 : Nat) : Int), .int .u64 ((0 : Nat) : Int), .int .i64 0, .slice none 0 0] rfl rfl 30 #[.int .i64 0, .int .u64 0, .int .u64 0, .int .i64 0, .slice none 0 0] HS.out.z (by kernel_rfl) rfl (by simp [Value.oneCell']) ?_)
    refine bodyPost_ret (v := .agg #[.int .i64 cd, .int .u64 ((0 : Nat) : Int), .int .u64 ((0 : Nat) : Int), .int .i64 0, .slice none 0 0]) (results_cell_row results41 _ _ b2 30 _ (0, 0) _ rfl (setRow_heap _ b2 _ _ 30 (0, 0) HS.out.z) Tryz.underlying30 rfl (by kernel_rfl)) rfl ?_
    exact HS.out.done (by omega)
  have n0 : (fo == 0) = false := by rw [beq_eq_false_iff_ne]; exact h0
  by_cases h1 : fo = 1
  · subst h1
    go_upto_region 19 with (go_at_call 69; refine (HBl.out _ _ HS.out.ri (by omega)).mono ?_; rintro e w2 ⟨x, rfl, hx2, p2, p3⟩; have S2 := Lib.hid (HS.out.call p2 p3); have zz := S2.out.x.frozen 1; have yy := S2.out.x.cell 1; clear p2 p3)
    obtain ⟨V1, hV1⟩ : ∃ V, V = w2.setCell ⟨b4, 1, none⟩ (.int .u64 (x : Int)) := ⟨_, rfl⟩
    have S3 := Lib.hid (S2.out.set_ 1 (.int .u64 (x : Int)))
    rw [← hV1] at S3
    rw [← hV1]
    clear hV1
    have fx0 : V1.cell? ⟨b4, 0, none⟩ = some (.int .i64 cd) := S3.out.x.cell 0
    have fx1 : V1.cell? ⟨b4, 1, none⟩ = some (.int .u64 (x : Int)) := S3.out.x.cell 1
    have fx2 : V1.cell? ⟨b4, 2, none⟩ = some (.int .u64 ((0 : Nat) : Int)) := S3.out.x.cell 2
    have fx3 : V1.cell? ⟨b4, 3, none⟩ = some (.int .i64 0) := S3.out.x.cell 3
    have fx4 : V1.cell? ⟨b4, 4, none⟩ = some (.slice none 0 0) := S3.out.x.cell 4
    go_wp2_with (refine wpList_store_row rfl 30 (.tmp 2) (.tmp 57) rfl b2 #[.int .i64 cd, .int .u64 (x : Int), .int .u64 ((0 : Nat) : Int), .int .i64 0, .slice none 0 0] rfl rfl 30 #[.int .i64 0, .int .u64 0, .int .u64 0, .int .i64 0, .slice none 0 0] S3.out.z (by kernel_rfl) rfl (by simp [Value.oneCell']) ?_)
    refine bodyPost_ret (v := .agg #[.int .i64 cd, .int .u64 (x : Int), .int .u64 ((0 : Nat) : Int), .int .i64 0, .slice none 0 0]) (results_cell_row results41 _ _ b2 30 _ (0, 0) _ rfl (setRow_heap _ b2 _ _ 30 (0, 0) S3.out.z) Tryz.underlying30 rfl (by kernel_rfl)) rfl ?_
    exact S3.out.done (by omega)
  have n1 : (fo == 1) = false := by rw [beq_eq_false_iff_ne]; exact h1
  by_cases h3 : fo = 3
  · subst h3
    go_upto_region 10 with (go_at_call 70; refine (HLa.out _ _ HS.out.ri (by omega)).mono ?_; rintro e w2 ⟨A, n, cp, rfl, p2, p3⟩; have S2 := Lib.hid (HS.out.call p2 p3); have zz := S2.out.x.frozen 4; have yy := S2.out.x.cell 4; clear p2 p3)
    obtain ⟨V1, hV1⟩ : ∃ V, V = w2.setCell ⟨b4, 4, none⟩ (.slice A n cp) := ⟨_, rfl⟩
    have S3 := Lib.hid (S2.out.set_ 4 (.slice A n cp))
    rw [← hV1] at S3
    rw [← hV1]
    clear hV1
    go_upto_region 19 with (go_at_call 71; refine (HNum.out _ _ S3.out.ri (by omega)).mono ?_; rintro e w3 ⟨x, rfl, hx, p2, p3⟩; have S4 := Lib.hid (S3.out.call p2 p3); have zzS4 := S4.out.x.frozen 1; have yyS4 := S4.out.x.cell 1; clear p2 p3)
    obtain ⟨V2, hV2⟩ : ∃ V, V = w3.setCell ⟨b4, 1, none⟩ (.int .u64 (x : Int)) := ⟨_, rfl⟩
    have S5 := Lib.hid (S4.out.set_ 1 (.int .u64 (x : Int)))
    rw [← hV2] at S5
    rw [← hV2]
    clear hV2
    have fx0 : V2.cell? ⟨b4, 0, none⟩ = some (.int .i64 cd) := S5.out.x.cell 0
    have fx1 : V2.cell? ⟨b4, 1, none⟩ = some (.int .u64 (x : Int)) := S5.out.x.cell 1
    have fx2 : V2.cell? ⟨b4, 2, none⟩ = some (.int .u64 ((0 : Nat) : Int)) := S5.out.x.cell 2
    have fx3 : V2.cell? ⟨b4, 3, none⟩ = some (.int .i64 0) := S5.out.x.cell 3
    have fx4 : V2.cell? ⟨b4, 4, none⟩ = some (.slice A n cp) := S5.out.x.cell 4
    go_wp2_with (refine wpList_store_row rfl 30 (.tmp 2) (.tmp 57) rfl b2 #[.int .i64 cd, .int .u64 (x : Int), .int .u64 ((0 : Nat) : Int), .int .i64 0, .slice A n cp] rfl rfl 30 #[.int .i64 0, .int .u64 0, .int .u64 0, .int .i64 0, .slice none 0 0] S5.out.z (by kernel_rfl) rfl (by simp [Value.oneCell']) ?_)
    refine bodyPost_ret (v := .agg #[.int .i64 cd, .int .u64 (x : Int), .int .u64 ((0 : Nat) : Int), .int .i64 0, .slice A n cp]) (results_cell_row results41 _ _ b2 30 _ (0, 0) _ rfl (setRow_heap _ b2 _ _ 30 (0, 0) S5.out.z) Tryz.underlying30 rfl (by kernel_rfl)) rfl ?_
    exact S5.out.done (by omega)
  have n3 : (fo == 3) = false := by rw [beq_eq_false_iff_ne]; exact h3
  by_cases h5 : fo = 5
  · subst h5
    go_upto_region 14 with (go_at_call 71; refine (HNum.out _ _ HS.out.ri (by omega)).mono ?_; rintro e w2 ⟨x, rfl, hx, p2, p3⟩; have S2 := Lib.hid (HS.out.call p2 p3); have zzS2 := S2.out.x.frozen 1; have yyS2 := S2.out.x.cell 1; clear p2 p3)
    obtain ⟨V1, hV1⟩ : ∃ V, V = w2.setCell ⟨b4, 1, none⟩ (.int .u64 (x : Int)) := ⟨_, rfl⟩
    have S3 := Lib.hid (S2.out.set_ 1 (.int .u64 (x : Int)))
    rw [← hV1] at S3
    rw [← hV1]
    clear hV1
    go_upto_region 19 with (go_at_call 71; refine (HNum.out _ _ S3.out.ri (by omega)).mono ?_; rintro e w3 ⟨y, rfl, hy, p2, p3⟩; have S4 := Lib.hid (S3.out.call p2 p3); have zzS4 := S4.out.x.frozen 2; have yyS4 := S4.out.x.cell 2; clear p2 p3)
    obtain ⟨V2, hV2⟩ : ∃ V, V = w3.setCell ⟨b4, 2, none⟩ (.int .u64 (y : Int)) := ⟨_, rfl⟩
    have S5 := Lib.hid (S4.out.set_ 2 (.int .u64 (y : Int)))
    rw [← hV2] at S5
    rw [← hV2]
    clear hV2
    have fx0 : V2.cell? ⟨b4, 0, none⟩ = some (.int .i64 cd) := S5.out.x.cell 0
    have fx1 : V2.cell? ⟨b4, 1, none⟩ = some (.int .u64 (x : Int)) := S5.out.x.cell 1
    have fx2 : V2.cell? ⟨b4, 2, none⟩ = some (.int .u64 (y : Int)) := S5.out.x.cell 2
    have fx3 : V2.cell? ⟨b4, 3, none⟩ = some (.int .i64 0) := S5.out.x.cell 3
    have fx4 : V2.cell? ⟨b4, 4, none⟩ = some (.slice none 0 0) := S5.out.x.cell 4
    go_wp2_with (refine wpList_store_row rfl 30 (.tmp 2) (.tmp 57) rfl b2 #[.int .i64 cd, .int .u64 (x : Int), .int .u64 (y : Int), .int .i64 0, .slice none 0 0] rfl rfl 30 #[.int .i64 0, .int .u64 0, .int .u64 0, .int .i64 0, .slice none 0 0] S5.out.z (by kernel_rfl) rfl (by simp [Value.oneCell']) ?_)
    refine bodyPost_ret (v := .agg #[.int .i64 cd, .int .u64 (x : Int), .int .u64 (y : Int), .int .i64 0, .slice none 0 0]) (results_cell_row results41 _ _ b2 30 _ (0, 0) _ rfl (setRow_heap _ b2 _ _ 30 (0, 0) S5.out.z) Tryz.underlying30 rfl (by kernel_rfl)) rfl ?_
    exact S5.out.done (by omega)
  have n5 : (fo == 5) = false := by rw [beq_eq_false_iff_ne]; exact h5
  by_cases h10 : fo = 10
  · subst h10
    go_upto_region 14 with (go_at_call 71; refine (HNum.out _ _ HS.out.ri (by omega)).mono ?_; rintro e w2 ⟨x, rfl, hx, p2, p3⟩; have S2 := Lib.hid (HS.out.call p2 p3); have zzS2 := S2.out.x.frozen 1; have yyS2 := S2.out.x.cell 1; clear p2 p3)
    obtain ⟨V1, hV1⟩ : ∃ V, V = w2.setCell ⟨b4, 1, none⟩ (.int .u64 (x : Int)) := ⟨_, rfl⟩
    have S3 := Lib.hid (S2.out.set_ 1 (.int .u64 (x : Int)))
    rw [← hV1] at S3
    rw [← hV1]
    clear hV1
    go_upto_region 19 with (go_at_call 71; refine (HNum.out _ _ S3.out.ri (by omega)).mono ?_; rintro e w3 ⟨y, rfl, hy, p2, p3⟩; have S4 := Lib.hid (S3.out.call p2 p3); have zzS4 := S4.out.x.frozen 2; have yyS4 := S4.out.x.cell 2; clear p2 p3)
    obtain ⟨V2, hV2⟩ : ∃ V, V = w3.setCell ⟨b4, 2, none⟩ (.int .u64 (y : Int)) := ⟨_, rfl⟩
    have S5 := Lib.hid (S4.out.set_ 2 (.int .u64 (y : Int)))
    rw [← hV2] at S5
    rw [← hV2]
    clear hV2
    have fx0 : V2.cell? ⟨b4, 0, none⟩ = some (.int .i64 cd) := S5.out.x.cell 0
    have fx1 : V2.cell? ⟨b4, 1, none⟩ = some (.int .u64 (x : Int)) := S5.out.x.cell 1
    have fx2 : V2.cell? ⟨b4, 2, none⟩ = some (.int .u64 (y : Int)) := S5.out.x.cell 2
    have fx3 : V2.cell? ⟨b4, 3, none⟩ = some (.int .i64 0) := S5.out.x.cell 3
    have fx4 : V2.cell? ⟨b4, 4, none⟩ = some (.slice none 0 0) := S5.out.x.cell 4
    go_wp2_with (refine wpList_store_row rfl 30 (.tmp 2) (.tmp 57) rfl b2 #[.int .i64 cd, .int .u64 (x : Int), .int .u64 (y : Int), .int .i64 0, .slice none 0 0] rfl rfl 30 #[.int .i64 0, .int .u64 0, .int .u64 0, .int .i64 0, .slice none 0 0] S5.out.z (by kernel_rfl) rfl (by simp [Value.oneCell']) ?_)
    refine bodyPost_ret (v := .agg #[.int .i64 cd, .int .u64 (x : Int), .int .u64 (y : Int), .int .i64 0, .slice none 0 0]) (results_cell_row results41 _ _ b2 30 _ (0, 0) _ rfl (setRow_heap _ b2 _ _ 30 (0, 0) S5.out.z) Tryz.underlying30 rfl (by kernel_rfl)) rfl ?_
    exact S5.out.done (by omega)
  have n10 : (fo == 10) = false := by rw [beq_eq_false_iff_ne]; exact h10
  by_cases h8 : fo = 8
  · subst h8
    go_upto_region 19 with (go_at_call 72; refine (HAc.out _ _ HS.out.ri (by omega)).mono ?_; rintro e w2 ⟨al, x, y, rfl, p2, p3⟩; have S2 := Lib.hid (HS.out.call p2 p3); have zz1 := S2.out.x.frozen 1; have zz2 := S2.out.x.frozen 2; have zz3 := S2.out.x.frozen 3; have yy1 := S2.out.x.cell 1; have yy2 := S2.out.x.cell 2; have yy3 := S2.out.x.cell 3; clear p2 p3)
    obtain ⟨V1, hV1⟩ : ∃ V, V = ((w2.setCell ⟨b4, 3, none⟩ (.int .i64 al)).setCell ⟨b4, 1, none⟩ (.int .u64 (x : Int))).setCell ⟨b4, 2, none⟩ (.int .u64 (y : Int)) := ⟨_, rfl⟩
    have S3 := Lib.hid (((S2.out.set_ 3 (.int .i64 al)).set_ 1 (.int .u64 (x : Int))).set_ 2 (.int .u64 (y : Int)))
    rw [← hV1] at S3
    rw [← hV1]
    clear hV1
    have fx0 : V1.cell? ⟨b4, 0, none⟩ = some (.int .i64 cd) := S3.out.x.cell 0
    have fx1 : V1.cell? ⟨b4, 1, none⟩ = some (.int .u64 (x : Int)) := S3.out.x.cell 1
    have fx2 : V1.cell? ⟨b4, 2, none⟩ = some (.int .u64 (y : Int)) := S3.out.x.cell 2
    have fx3 : V1.cell? ⟨b4, 3, none⟩ = some (.int .i64 al) := S3.out.x.cell 3
    have fx4 : V1.cell? ⟨b4, 4, none⟩ = some (.slice none 0 0) := S3.out.x.cell 4
    go_wp2_with (refine wpList_store_row rfl 30 (.tmp 2) (.tmp 57) rfl b2 #[.int .i64 cd, .int .u64 (x : Int), .int .u64 (y : Int), .int .i64 al, .slice none 0 0] rfl rfl 30 #[.int .i64 0, .int .u64 0, .int .u64 0, .int .i64 0, .slice none 0 0] S3.out.z (by kernel_rfl) rfl (by simp [Value.oneCell']) ?_)
    refine bodyPost_ret (v := .agg #[.int .i64 cd, .int .u64 (x : Int), .int .u64 (y : Int), .int .i64 al, .slice none 0 0]) (results_cell_row results41 _ _ b2 30 _ (0, 0) _ rfl (setRow_heap _ b2 _ _ 30 (0, 0) S3.out.z) Tryz.underlying30 rfl (by kernel_rfl)) rfl ?_
    exact S3.out.done (by omega)
  have n8 : (fo == 8) = false := by rw [beq_eq_false_iff_ne]; exact h8
  by_cases h11 : fo = 11
  · subst h11
    have HB3 := Lib.hid (HBi.out rfl W6 HB6.out)
    go_upto_region 19 with (first
      | (go_at_call 33; refine HB3.out.mono ?_; rintro e w2 ⟨bt, hbt, rfl, p3⟩; have S1 := Lib.hid (HS.out.below p3); have HBT := Lib.hid hbt; clear p3 hbt)
      | (go_at_call 73; refine (HWd.out _ _ bt S1.out.ri (by omega) HBT.out).mono ?_; rintro e w3 ⟨x, rfl, hx2, p2, p3⟩; have S2 := Lib.hid (S1.out.call p2 p3); have zz := S2.out.x.frozen 1; have yy := S2.out.x.cell 1; clear p2 p3))
    obtain ⟨V1, hV1⟩ : ∃ V, V = w3.setCell ⟨b4, 1, none⟩ (.int .u64 (x : Int)) := ⟨_, rfl⟩
    have S3 := Lib.hid (S2.out.set_ 1 (.int .u64 (x : Int)))
    rw [← hV1] at S3
    rw [← hV1]
    clear hV1
    have fx0 : V1.cell? ⟨b4, 0, none⟩ = some (.int .i64 cd) := S3.out.x.cell 0
    have fx1 : V1.cell? ⟨b4, 1, none⟩ = some (.int .u64 (x : Int)) := S3.out.x.cell 1
    have fx2 : V1.cell? ⟨b4, 2, none⟩ = some (.int .u64 ((0 : Nat) : Int)) := S3.out.x.cell 2
    have fx3 : V1.cell? ⟨b4, 3, none⟩ = some (.int .i64 0) := S3.out.x.cell 3
    have fx4 : V1.cell? ⟨b4, 4, none⟩ = some (.slice none 0 0) := S3.out.x.cell 4
    go_wp2_with (refine wpList_store_row rfl 30 (.tmp 2) (.tmp 57) rfl b2 #[.int .i64 cd, .int .u64 (x : Int), .int .u64 ((0 : Nat) : Int), .int .i64 0, .slice none 0 0] rfl rfl 30 #[.int .i64 0, .int .u64 0, .int .u64 0, .int .i64 0, .slice none 0 0] S3.out.z (by kernel_rfl) rfl (by simp [Value.oneCell']) ?_)
    refine bodyPost_ret (v := .agg #[.int .i64 cd, .int .u64 (x : Int), .int .u64 ((0 : Nat) : Int), .int .i64 0, .slice none 0 0]) (results_cell_row results41 _ _ b2 30 _ (0, 0) _ rfl (setRow_heap _ b2 _ _ 30 (0, 0) S3.out.z) Tryz.underlying30 rfl (by kernel_rfl)) rfl ?_
    exact S3.out.done (by omega)
  have n11 : (fo == 11) = false := by rw [beq_eq_false_iff_ne]; exact h11
  go_upto_region 19 with (go_at_call 71; refine (HNum.out _ _ HS.out.ri (by omega)).mono ?_; rintro e w2 ⟨x, rfl, hx, p2, p3⟩; have S2 := Lib.hid (HS.out.call p2 p3); have zzS2 := S2.out.x.frozen 1; have yyS2 := S2.out.x.cell 1; clear p2 p3)
  obtain ⟨V1, hV1⟩ : ∃ V, V = w2.setCell ⟨b4, 1, none⟩ (.int .u64 (x : Int)) := ⟨_, rfl⟩
  have S3 := Lib.hid (S2.out.set_ 1 (.int .u64 (x : Int)))
  rw [← hV1] at S3
  rw [← hV1]
  clear hV1
  have fx0 : V1.cell? ⟨b4, 0, none⟩ = some (.int .i64 cd) := S3.out.x.cell 0
  have fx1 : V1.cell? ⟨b4, 1, none⟩ = some (.int .u64 (x : Int)) := S3.out.x.cell 1
  have fx2 : V1.cell? ⟨b4, 2, none⟩ = some (.int .u64 ((0 : Nat) : Int)) := S3.out.x.cell 2
  have fx3 : V1.cell? ⟨b4, 3, none⟩ = some (.int .i64 0) := S3.out.x.cell 3
  have fx4 : V1.cell? ⟨b4, 4, none⟩ = some (.slice none 0 0) := S3.out.x.cell 4
  go_wp2_with (refine wpList_store_row rfl 30 (.tmp 2) (.tmp 57) rfl b2 #[.int .i64 cd, .int .u64 (x : Int), .int .u64 ((0 : Nat) : Int), .int .i64 0, .slice none 0 0] rfl rfl 30 #[.int .i64 0, .int .u64 0, .int .u64 0, .int .i64 0, .slice none 0 0] S3.out.z (by kernel_rfl) rfl (by simp [Value.oneCell']) ?_)
  refine bodyPost_ret (v := .agg #[.int .i64 cd, .int .u64 (x : Int), .int .u64 ((0 : Nat) : Int), .int .i64 0, .slice none 0 0]) (results_cell_row results41 _ _ b2 30 _ (0, 0) _ rfl (setRow_heap _ b2 _ _ 30 (0, 0) S3.out.z) Tryz.underlying30 rfl (by kernel_rfl)) rfl ?_
  exact S3.out.done (by omega)
end
end Go.Proofs.YtggfaalodojjkaaGreatDoor
