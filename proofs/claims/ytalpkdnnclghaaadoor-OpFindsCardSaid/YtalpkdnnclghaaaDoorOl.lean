/-
  What Find and Named answer, flat; OpApart's walk.
-/
import Derived.Test.YtalpkdnnclghaaaDoorOk
import Derived.Outline
namespace Go.Proofs.YtalpkdnnclghaaaDoor
open Go.RowKit Go.ChangeShapes Go.WideShapes Go.ChangeAt
set_option linter.unusedVariables false
set_option linter.unusedSimpArgs false
theorem blk5 {w : World} {g : Nat} {a b c d e : Value} (h : Blk w g 57 #[a, b, c, d, e]) : w.cell? ⟨g, 0, none⟩ = some a ∧ w.cell? ⟨g, 1, none⟩ = some b ∧ w.cell? ⟨g, 2, none⟩ = some c ∧ w.cell? ⟨g, 3, none⟩ = some d ∧ w.cell? ⟨g, 4, none⟩ = some e :=
  ⟨h.cell 0, h.cell 1, h.cell 2, h.cell 3, h.cell 4⟩
/-- an op as it is answered -/
structure Opv where
  ok : Bool
  c : Int
  s : ByteArray
  f : Int
  tl : List Nat
  gl : List Nat
def FFlat (o : Opv) (w : World) (e : Ending) (w' : World) : Prop := ∃ At ct Ag cg, e = .returned (.tuple #[.agg #[.int .i64 o.c, .string o.s, .int .i64 o.f, .slice At o.tl.length ct, .slice Ag o.gl.length cg], .bool o.ok])
  ∧ w'.ownsRow w.heap.size 51 1 (.slice At o.tl.length ct) o.tl.length (o.tl.map U8) ∧ w'.ownsRow w.heap.size 51 1 (.slice Ag o.gl.length cg) o.gl.length (o.gl.map U8) ∧ Below w.heap.size w w'
def opv (r : Rw) (i : Nat) : Opv := ⟨true, (r.first : Int) + (i : Int), nmS r i, (r.form : Nat), r.takes, r.gives⟩
def opz : Opv := ⟨false, 0, ⟨#[]⟩, 0, [], []⟩
theorem IPost.flat {r : Rw} {i : Nat} {w : World} {e : Ending} {w' : World} (h : IPost r i w e w') : FFlat (opv r i) w e w' := h
theorem NoPost.flat {w : World} {e : Ending} {w' : World} (h : NoPost w e w') : FFlat opz w e w' :=
  ⟨none, 0, none, 0, h.1, World.ownsRow_nil _ _ _ _, World.ownsRow_nil _ _ _ _, h.2⟩
theorem Find_flat (code : Int) (hc : (Lit.int .i64 code).wf = true) : ∃ o : Opv, ((∃ r i, OpAt code r i ∧ o = opv r i) ∨ ((∀ r i, ¬ OpAt code r i) ∧ o = opz)) ∧ ∀ W, Tb W → Calls Tryd.prog 31 #[.int .i64 code] W (FFlat o W) := by
  rcases Find_case code hc with ⟨r, i, h1, h2⟩ | ⟨h1, h2⟩
  · exact ⟨opv r i, .inl ⟨r, i, h1, rfl⟩, fun W hT => (h2 W hT).mono fun _ _ h => h.flat⟩
  · exact ⟨opz, .inr ⟨h1, rfl⟩, fun W hT => (h2 W hT).mono fun _ _ h => h.flat⟩
theorem Named_flat (s : ByteArray) : ∃ o : Opv, ((∃ c r i, OpAt c r i ∧ nmS r i = s ∧ o = opv r i) ∨ ((∀ c r i, OpAt c r i → nmS r i ≠ s) ∧ o = opz)) ∧ ∀ W, Tb W → Calls Tryd.prog 41 #[.string s] W (FFlat o W) := by
  by_cases h : ∃ c r i, OpAt c r i ∧ nmS r i = s
  · obtain ⟨c, r, i, h1, h2⟩ := h
    refine ⟨opv r i, .inl ⟨c, r, i, h1, h2, rfl⟩, fun W hT => (Named_any s W hT).mono ?_⟩
    intro e w' h
    rcases h with ⟨k, r', i', hk, hi, hn, h⟩ | ⟨hn, _⟩
    · have hop : OpAt ((r'.first : Int) + (i' : Int)) r' i' := ⟨mem_OPS.2 ⟨List.mem_of_getElem? hk, hi⟩, rfl⟩
      have hcc := (names_apart h1 hop).1 (h2.trans hn.symm)
      have h3 := h1
      rw [hcc] at h3
      obtain ⟨k1, hk1⟩ := RowOf.of_op h3
      obtain ⟨k2, hk2⟩ := RowOf.of_op hop
      obtain ⟨_, rfl⟩ := hk1.uniq hk2
      obtain rfl : i = i' := by have := h3.2; omega
      exact h.flat
    · obtain ⟨hm, hi⟩ := mem_OPS.1 h1.1
      obtain ⟨k, hk⟩ := List.getElem?_of_mem hm
      exact absurd h2 (hn k r i hk hi)
  · refine ⟨opz, .inr ⟨fun c r i h1 h2 => h ⟨c, r, i, h1, h2⟩, rfl⟩, fun W hT => (Named_any s W hT).mono ?_⟩
    intro e w' h'
    rcases h' with ⟨k, r', i', hk, hi, hn, _⟩ | ⟨_, h'⟩
    · exact absurd ⟨_, r', i', ⟨mem_OPS.2 ⟨List.mem_of_getElem? hk, hi⟩, rfl⟩, hn⟩ h
    · exact h'.flat
theorem str_beq (a b : ByteArray) : (a.toList == b.toList) = decide (a = b) := by
  rw [ByteArray.toList_eq, ByteArray.toList_eq, Bool.eq_iff_iff]
  simp only [beq_iff_eq, decide_eq_true_eq]
  exact ⟨fun h => ba_ext h, fun h => by rw [h]⟩
set_option maxHeartbeats 8000000 in
set_option maxRecDepth 100000 in
theorem apart_gen (a b : Int) (ok is has : Bool) (c1 c2 c3 : Int) (s1 s2 s3 : ByteArray) (f1 f2 f3 : Int) (tl1 gl1 tl2 gl2 tl3 gl3 : List Nat) (w : World) (hT : Tb w)
    (hA : ∀ W, Tb W → Calls Tryd.prog 31 #[.int .i64 a] W (FFlat ⟨ok, c1, s1, f1, tl1, gl1⟩ W))
    (hB : ∀ W, Tb W → Calls Tryd.prog 31 #[.int .i64 b] W (FFlat ⟨is, c2, s2, f2, tl2, gl2⟩ W))
    (hC : ∀ W, Tb W → Calls Tryd.prog 41 #[.string s1] W (FFlat ⟨has, c3, s3, f3, tl3, gl3⟩ W))
    (h1 : ok = false → s1 = ⟨#[]⟩) (h2 : is = false → s2 = ⟨#[]⟩)
    (h3 : ok = true → is = true → has = true ∧ c3 = a ∧ c1 = a ∧ ((s1.toList == s2.toList) = decide (a = b))) :
    Calls Tryd.prog 12 #[.int .i64 a, .int .i64 b] w fun e w' => e = .returned (.bool true) ∧ Below w.heap.size w w' := by
  have HA := Lib.hid hA
  have HB := Lib.hid hB
  have HC := Lib.hid hC
  have HW := Lib.hid awake_any
  have HT := Lib.hid hT
  have H3 := Lib.hid h3
  have H0 : Hid (Below w.heap.size w w) := Lib.hid (Below.refl _ _)
  clear hA hB hC hT h3
  cases ok with
  | false =>
    obtain rfl := h1 rfl
    cases is with
    | false =>
      obtain rfl := h2 rfl
      go_enter Tryd.func12, Tryd.ntmps12
      go_wp2_with (first
        | (go_at_call 31; (with_reducible refine (HA.out _ HT.out).mono ?_); rintro e wa ⟨Ata, cta, Aga, cga, rfl, hoa, hqa, hba⟩
           have HBa : Hid (Below w.heap.size w wa) := Lib.hid ((H0.out).trans (hba.mono (H0.out).size))
           clear hoa hqa hba)
        | (go_at_call 31; (with_reducible refine (HB.out _ (HT.out.below (HBa.out.alloc HBa.out.size _) HT.out.size)).mono ?_); rintro e wb ⟨Atb, ctb, Agb, cgb, rfl, hob, hqb, hbb⟩
           have HBb : Hid (Below w.heap.size w wb) := Lib.hid (((HBa.out.alloc HBa.out.size _)).trans (hbb.mono ((HBa.out.alloc HBa.out.size _)).size))
           have hla : wa.heap.size < wb.heap.size := by have := hbb.size; simp at this; omega
           obtain ⟨x0, x1, _, _, _⟩ := blk5 ((Blk.new wa 57 #[.int .i64 c1, .string ⟨#[]⟩, .int .i64 f1, .slice Ata tl1.length cta, .slice Aga gl1.length cga]).below hbb (by simp))
           clear hob hqb hbb)
        | (go_at_call 37; (with_reducible refine (HW.out _ (HT.out.below (HBb.out.alloc HBb.out.size _) HT.out.size)).mono ?_); rintro e we ⟨rfl, hf⟩
           have HF : Hid (Below w.heap.size w we) := Lib.hid ((HBb.out.alloc HBb.out.size _).trans (hf.mono (HBb.out.alloc HBb.out.size _).size))
           clear hf))
      go_ret
      exact ⟨rfl, HF.out⟩
    | true =>
      go_enter Tryd.func12, Tryd.ntmps12
      go_wp2_with (first
        | (go_at_call 31; (with_reducible refine (HA.out _ HT.out).mono ?_); rintro e wa ⟨Ata, cta, Aga, cga, rfl, hoa, hqa, hba⟩
           have HBa : Hid (Below w.heap.size w wa) := Lib.hid ((H0.out).trans (hba.mono (H0.out).size))
           clear hoa hqa hba)
        | (go_at_call 31; (with_reducible refine (HB.out _ (HT.out.below (HBa.out.alloc HBa.out.size _) HT.out.size)).mono ?_); rintro e wb ⟨Atb, ctb, Agb, cgb, rfl, hob, hqb, hbb⟩
           have HBb : Hid (Below w.heap.size w wb) := Lib.hid (((HBa.out.alloc HBa.out.size _)).trans (hbb.mono ((HBa.out.alloc HBa.out.size _)).size))
           have hla : wa.heap.size < wb.heap.size := by have := hbb.size; simp at this; omega
           obtain ⟨x0, x1, _, _, _⟩ := blk5 ((Blk.new wa 57 #[.int .i64 c1, .string ⟨#[]⟩, .int .i64 f1, .slice Ata tl1.length cta, .slice Aga gl1.length cga]).below hbb (by simp))
           clear hob hqb hbb)
        | (go_at_call 37; (with_reducible refine (HW.out _ (HT.out.below (HBb.out.alloc HBb.out.size _) HT.out.size)).mono ?_); rintro e we ⟨rfl, hf⟩
           have HF : Hid (Below w.heap.size w we) := Lib.hid ((HBb.out.alloc HBb.out.size _).trans (hf.mono (HBb.out.alloc HBb.out.size _).size))
           clear hf))
      go_ret
      exact ⟨rfl, HF.out⟩
  | true =>
    cases is with
    | false =>
      obtain rfl := h2 rfl
      go_enter Tryd.func12, Tryd.ntmps12
      go_wp2_with (first
        | (go_at_call 31; (with_reducible refine (HA.out _ HT.out).mono ?_); rintro e wa ⟨Ata, cta, Aga, cga, rfl, hoa, hqa, hba⟩
           have HBa : Hid (Below w.heap.size w wa) := Lib.hid ((H0.out).trans (hba.mono (H0.out).size))
           clear hoa hqa hba)
        | (go_at_call 31; (with_reducible refine (HB.out _ (HT.out.below (HBa.out.alloc HBa.out.size _) HT.out.size)).mono ?_); rintro e wb ⟨Atb, ctb, Agb, cgb, rfl, hob, hqb, hbb⟩
           have HBb : Hid (Below w.heap.size w wb) := Lib.hid (((HBa.out.alloc HBa.out.size _)).trans (hbb.mono ((HBa.out.alloc HBa.out.size _)).size))
           have hla : wa.heap.size < wb.heap.size := by have := hbb.size; simp at this; omega
           obtain ⟨x0, x1, _, _, _⟩ := blk5 ((Blk.new wa 57 #[.int .i64 c1, .string s1, .int .i64 f1, .slice Ata tl1.length cta, .slice Aga gl1.length cga]).below hbb (by simp))
           clear hob hqb hbb)
        | (go_at_call 37; (with_reducible refine (HW.out _ (HT.out.below (HBb.out.alloc HBb.out.size _) HT.out.size)).mono ?_); rintro e we ⟨rfl, hf⟩
           have HF : Hid (Below w.heap.size w we) := Lib.hid ((HBb.out.alloc HBb.out.size _).trans (hf.mono (HBb.out.alloc HBb.out.size _).size))
           clear hf))
      go_ret
      exact ⟨rfl, HF.out⟩
    | true =>
      obtain ⟨rfl, rfl, hc1, hs⟩ := H3.out rfl rfl
      subst hc1
      by_cases hab : c1 = b
      · subst hab
        have hs1 : (s1.toList == s2.toList) = true := by rw [hs]; simp
        clear hs
        go_enter Tryd.func12, Tryd.ntmps12
        go_wp2_with (first
          | (go_at_call 31; (with_reducible refine (HA.out _ HT.out).mono ?_); rintro e wa ⟨Ata, cta, Aga, cga, rfl, hoa, hqa, hba⟩
             have HBa : Hid (Below w.heap.size w wa) := Lib.hid ((H0.out).trans (hba.mono (H0.out).size))
             clear hoa hqa hba)
          | (go_at_call 31; (with_reducible refine (HB.out _ (HT.out.below (HBa.out.alloc HBa.out.size _) HT.out.size)).mono ?_); rintro e wb ⟨Atb, ctb, Agb, cgb, rfl, hob, hqb, hbb⟩
             have HBb : Hid (Below w.heap.size w wb) := Lib.hid (((HBa.out.alloc HBa.out.size _)).trans (hbb.mono ((HBa.out.alloc HBa.out.size _)).size))
             have hla : wa.heap.size < wb.heap.size := by have := hbb.size; simp at this; omega
             have HXA : Hid (Blk wb wa.heap.size 57 #[.int .i64 c1, .string s1, .int .i64 f1, .slice Ata tl1.length cta, .slice Aga gl1.length cga]) := Lib.hid ((Blk.new wa 57 _).below hbb (by simp))
             obtain ⟨x0, x1, _, _, _⟩ := blk5 ((Blk.new wa 57 #[.int .i64 c1, .string s1, .int .i64 f1, .slice Ata tl1.length cta, .slice Aga gl1.length cga]).below hbb (by simp))
             clear hob hqb hbb)
          | (go_at_call 41; (with_reducible refine (HC.out _ (HT.out.below (HBb.out.alloc HBb.out.size _) HT.out.size)).mono ?_); rintro e wc ⟨Atc, ctc, Agc, cgc, rfl, hoc, hqc, hbc⟩
             have HBc : Hid (Below w.heap.size w wc) := Lib.hid (((HBb.out.alloc HBb.out.size _)).trans (hbc.mono ((HBb.out.alloc HBb.out.size _)).size))
             have hlb : wb.heap.size < wc.heap.size := by have := hbc.size; simp at this; omega
             have hlc : wa.heap.size < wc.heap.size := by omega
             obtain ⟨z0, z1, _, _, _⟩ := blk5 ((HXA.out.alloc _).below hbc (by simp; omega))
             obtain ⟨y0, y1, _, _, _⟩ := blk5 ((Blk.new wb 57 #[.int .i64 c2, .string s2, .int .i64 f2, .slice Atb tl2.length ctb, .slice Agb gl2.length cgb]).below hbc (by simp))
             clear x0 x1
             clear hoc hqc hbc)
          | (go_at_call 37; (with_reducible refine (HW.out _ (HT.out.below (HBc.out.alloc HBc.out.size _) HT.out.size)).mono ?_); rintro e we ⟨rfl, hf⟩
             have HF : Hid (Below w.heap.size w we) := Lib.hid ((HBc.out.alloc HBc.out.size _).trans (hf.mono (HBc.out.alloc HBc.out.size _).size))
             clear hf))
        go_ret
        exact ⟨rfl, HF.out⟩
      · have hs1 : (s1.toList == s2.toList) = false := by rw [hs]; simpa using hab
        have hb1 : (c1 == b) = false := by simpa using hab
        clear hs
        go_enter Tryd.func12, Tryd.ntmps12
        go_wp2_with (first
          | (go_at_call 31; (with_reducible refine (HA.out _ HT.out).mono ?_); rintro e wa ⟨Ata, cta, Aga, cga, rfl, hoa, hqa, hba⟩
             have HBa : Hid (Below w.heap.size w wa) := Lib.hid ((H0.out).trans (hba.mono (H0.out).size))
             clear hoa hqa hba)
          | (go_at_call 31; (with_reducible refine (HB.out _ (HT.out.below (HBa.out.alloc HBa.out.size _) HT.out.size)).mono ?_); rintro e wb ⟨Atb, ctb, Agb, cgb, rfl, hob, hqb, hbb⟩
             have HBb : Hid (Below w.heap.size w wb) := Lib.hid (((HBa.out.alloc HBa.out.size _)).trans (hbb.mono ((HBa.out.alloc HBa.out.size _)).size))
             have hla : wa.heap.size < wb.heap.size := by have := hbb.size; simp at this; omega
             have HXA : Hid (Blk wb wa.heap.size 57 #[.int .i64 c1, .string s1, .int .i64 f1, .slice Ata tl1.length cta, .slice Aga gl1.length cga]) := Lib.hid ((Blk.new wa 57 _).below hbb (by simp))
             obtain ⟨x0, x1, _, _, _⟩ := blk5 ((Blk.new wa 57 #[.int .i64 c1, .string s1, .int .i64 f1, .slice Ata tl1.length cta, .slice Aga gl1.length cga]).below hbb (by simp))
             clear hob hqb hbb)
          | (go_at_call 41; (with_reducible refine (HC.out _ (HT.out.below (HBb.out.alloc HBb.out.size _) HT.out.size)).mono ?_); rintro e wc ⟨Atc, ctc, Agc, cgc, rfl, hoc, hqc, hbc⟩
             have HBc : Hid (Below w.heap.size w wc) := Lib.hid (((HBb.out.alloc HBb.out.size _)).trans (hbc.mono ((HBb.out.alloc HBb.out.size _)).size))
             have hlb : wb.heap.size < wc.heap.size := by have := hbc.size; simp at this; omega
             have hlc : wa.heap.size < wc.heap.size := by omega
             obtain ⟨z0, z1, _, _, _⟩ := blk5 ((HXA.out.alloc _).below hbc (by simp; omega))
             obtain ⟨y0, y1, _, _, _⟩ := blk5 ((Blk.new wb 57 #[.int .i64 c2, .string s2, .int .i64 f2, .slice Atb tl2.length ctb, .slice Agb gl2.length cgb]).below hbc (by simp))
             clear x0 x1
             clear hoc hqc hbc)
          | (go_at_call 37; (with_reducible refine (HW.out _ (HT.out.below (HBc.out.alloc HBc.out.size _) HT.out.size)).mono ?_); rintro e we ⟨rfl, hf⟩
             have HF : Hid (Below w.heap.size w we) := Lib.hid ((HBc.out.alloc HBc.out.size _).trans (hf.mono (HBc.out.alloc HBc.out.size _).size))
             clear hf))
        go_ret
        exact ⟨rfl, HF.out⟩
end Go.Proofs.YtalpkdnnclghaaaDoor
