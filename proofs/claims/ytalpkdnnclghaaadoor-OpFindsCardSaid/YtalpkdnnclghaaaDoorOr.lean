/-
  OpNames' walk.
-/
import Derived.Test.YtalpkdnnclghaaaDoorOn
import Derived.Deep.RegionHeld3
import Derived.Outline
namespace Go.Proofs.YtalpkdnnclghaaaDoor
open Go.RowKit Go.ChangeShapes Go.WideShapes Go.ChangeAt
set_option linter.unusedVariables false
set_option linter.unusedSimpArgs false
theorem emp_facts {b : ByteArray} (h : b ≠ ⟨#[]⟩) : (b.toList == []) = false ∧ b.toList.isEmpty = false ∧ ¬ b.toList = [] := by
  have hs3 : ¬ b.toList = [] := by
    rw [ByteArray.toList_eq]
    exact fun e => h (ba_ext e)
  refine ⟨?_, ?_, hs3⟩
  · rw [beq_eq_false_iff_ne]; exact hs3
  · rw [List.isEmpty_eq_false_iff]; exact hs3
theorem wf_small (c : Int) (h0 : 0 ≤ c) (h1 : c < 100000) : (Lit.int .i64 c).wf = true := by
  have e1 : IntKind.i64.min = -9223372036854775808 := rfl
  have e2 : IntKind.i64.max = 9223372036854775807 := rfl
  show (decide (IntKind.i64.min ≤ c) && decide (c ≤ IntKind.i64.max)) = true
  rw [e1, e2]
  simp; omega
theorem rem_facts (kk : Int) : ∃ u m : Nat, IntKind.u64.wrap kk = (u : Int) ∧ (u : Int) % 111 = (m : Int) ∧ m < 111 := by
  have h0 : 0 ≤ IntKind.u64.wrap kk := by rw [IntKind.wrap_u64]; omega
  obtain ⟨u, hu⟩ := Int.eq_ofNat_of_zero_le h0
  exact ⟨u, u % 111, hu, by omega, Nat.mod_lt _ (by decide)⟩
theorem wf_small9 (c : Int) (h0 : 0 ≤ c) (h1 : c < 1000000) : (Lit.int .i64 c).wf = true := by
  have e1 : IntKind.i64.min = -9223372036854775808 := rfl
  have e2 : IntKind.i64.max = 9223372036854775807 := rfl
  show (decide (IntKind.i64.min ≤ c) && decide (c ≤ IntKind.i64.max)) = true
  rw [e1, e2]
  simp; omega
/-- All's ops, cell by cell -/
theorem list_at {w : World} {B B' c : Nat} {A : Option Addr} {xs : List Value} (ho : w.ownsRow B 57 5 (.slice A 111 c) 111 xs) (hx : Infs w B' OPS xs) : ∃ gl, A = some ⟨gl, 0, none⟩ ∧ (∀ k r i, OPS[k]? = some (r, i) → w.cell? ⟨gl, k * 5 + 1, none⟩ = some (.string (nmS r i)) ∧ w.cell? ⟨gl, k * 5, none⟩ = some (.int .i64 ((r.first : Int) + (i : Int)))) ∧ True := by
  rcases ho.2 with ⟨_, h⟩ | ⟨g2, cap, cur, e, hBg, hg, hn, hm, hs, ht⟩
  · omega
  · injection e with e1 e2 e3
    subst e1; subst e3
    refine ⟨g2, rfl, fun k r i hk => ?_, trivial⟩
    have hk9 : k < 111 := by rw [← OPS_length]; exact (List.getElem?_eq_some_iff.1 hk).1
    obtain ⟨At, ct, Ag, cg, hj, _, h2⟩ := hx.at k r i hk
    constructor
    · rw [ho.cellAt (k * 5 + 1) (by omega), hj 1 (by omega)]; rfl
    · rw [ho.cellAt (k * 5) (by omega)]
      have := hj 0 (by omega)
      rw [Nat.add_zero] at this
      rw [this]; rfl
def bsN (l : List UInt8) : ByteArray := ⟨l.toArray⟩
theorem bsN_ne {l : List UInt8} (h : l ≠ []) : bsN l ≠ ⟨#[]⟩ := fun e => h (by have := congrArg (fun b : ByteArray => b.data.toList) e; simpa [bsN] using this)
theorem bsN_beq (l : List UInt8) (s : ByteArray) : ((bsN l).toList == s.toList) = decide (l = s.data.toList) := by
  rw [str_beq, Bool.eq_iff_iff]
  simp only [decide_eq_true_eq]
  exact ⟨fun h => by rw [← h]; rfl, fun h => ba_ext (by rw [← h]; rfl)⟩
set_option maxHeartbeats 16000000 in
set_option maxRecDepth 100000 in
theorem names_gen (s : ByteArray) (hsz : s.size ≤ 60) (kk : Int) (hkk : (Lit.int .i64 kk).wf = true) (ok is : Bool) (c1 c2 : Int) (s1 s2 : ByteArray) (f1 f2 : Int) (tl1 gl1 tl2 gl2 : List Nat) (w : World) (hT : Tb w)
    (hA : ∀ W, Tb W → Calls Tryd.prog 41 #[.string s] W (FFlat ⟨ok, c1, s1, f1, tl1, gl1⟩ W))
    (hB : ∀ W, Tb W → Calls Tryd.prog 31 #[.int .i64 c1] W (FFlat ⟨is, c2, s2, f2, tl2, gl2⟩ W))
    (h1 : ok = true → is = true ∧ s2 = s) (h2 : ok = false → s1 = ⟨#[]⟩)
    (h3 : ∀ f, FI s.data.toList 199 f → (ok = true ∧ f = c1 ∧ 0 ≤ f) ∨ (ok = false ∧ f = -1)) :
    Calls Tryd.prog 9 #[.string s, .int .i64 kk] w fun e w' => e = .returned (.bool true) ∧ Below w.heap.size w w' := by
  have HA := Lib.hid hA
  have HB := Lib.hid hB
  have HL := Lib.hid All_any
  have HW := Lib.hid awake_any
  have HT := Lib.hid hT
  have H3 := Lib.hid h3
  have HN : Hid (∀ (c : Int) (W : World), (Lit.int .i64 c).wf = true → Calls Tryd.prog 32 #[.int .i64 c] W fun e w' => e = .returned (.string (bsN (nameL c))) ∧ Below W.heap.size W w') := Lib.hid (fun c W hc => RName_any c hc W)
  have HQ : Hid ((ok = false ∧ s1 = ⟨#[]⟩) ∨ (ok = true ∧ is = true ∧ s = s2)) := Lib.hid (by
    cases ok with
    | false => exact .inl ⟨rfl, h2 rfl⟩
    | true => exact .inr ⟨rfl, (h1 rfl).1, (h1 rfl).2.symm⟩)
  have hsz2 : decide ((60 : Int) < (s.size : Int)) = false := by simp; omega
  have HKK := Lib.hid hkk
  clear hA hB hT h1 h2 h3 hkk
  go_enter Tryd.func9, Tryd.ntmps9
  have HST : Hid ((s.toList == s.toList) = true ∧ (s.toList != s.toList) = false) := Lib.hid ⟨by simp, by simp⟩
  obtain ⟨hst1, hst2⟩ := HST.out
  rcases HQ.out with ⟨rfl, rfl⟩ | ⟨rfl, rfl, rfl⟩
  all_goals
    go_wp2_with (first
      | (go_at_call 41; (with_reducible refine (HA.out _ HT.out).mono ?_); rintro e wa ⟨Ata, cta, Aga, cga, rfl, hoa, hqa, hba⟩
         have HBa := Lib.hid hba
         clear hoa hqa hba)
      | (go_at_call 31; (with_reducible refine (HB.out _ (HT.out.below (HBa.out.alloc HBa.out.size _) HT.out.size)).mono ?_); rintro e wb ⟨Atb, ctb, Agb, cgb, rfl, hob, hqb, hbb⟩
         have HBb : Hid (Below w.heap.size w wb) := Lib.hid ((HBa.out.alloc HBa.out.size _).trans (hbb.mono (HBa.out.alloc HBa.out.size _).size))
         have hlb : wa.heap.size < wb.heap.size := by have := hbb.size; simp at this; omega
         obtain ⟨x0, x1, _, _, _⟩ := blk5 ((Blk.new wa 57 _).below hbb (by simp))
         clear hob hqb hbb))
    generalize hwz : World.alloc wb _ = wz
    have HBz : Hid (Below w.heap.size w wz) := Lib.hid (by rw [← hwz]; exact HBb.out.alloc HBb.out.size _)
    have HX0 := Lib.hid (show wz.cell? ⟨wa.heap.size, 0, none⟩ = some (.int .i64 c1) by rw [← hwz, World.cell?_alloc_old _ _ _ (Nat.ne_of_lt hlb)]; exact x0)
    have HLT : Hid (w.heap.size ≤ wa.heap.size ∧ wa.heap.size < wz.heap.size) := Lib.hid ⟨HBa.out.size, by rw [← hwz]; simp; omega⟩
    clear hwz x0 x1
    go_loopw [9, 10, 11] (fun v9 v10 v11 wr => ∃ (i : Nat) (f : Int), i ≤ 199 ∧ v11 = .int .i64 i ∧ v9 = .int .i64 f ∧ Hid (FI s.data.toList i f) ∧ (∃ n : Nat, n ≤ 199 ∧ v10 = .int .i64 n ∧ Hid (n = cntN i)) ∧ Hid (Below w.heap.size w wr) ∧ Hid (Below wz.heap.size wz wr)) (fun _ _ v11 _ => 199 - (intOf v11).toNat)
    case atStart => exact ⟨0, -1, by omega, rfl, rfl, Lib.hid (.inl ⟨rfl, fun j h => by omega⟩), ⟨0, by omega, rfl, Lib.hid rfl⟩, HBz, Lib.hid (Below.refl _ _)⟩
    case round =>
      obtain ⟨i, f, hi, rfl, rfl, HF, ⟨n, hn, rfl, HC⟩, HB1, HB2⟩ := hrel
      by_cases hlt : i < 199
      · have HM := Lib.hid (cntN_more i)
        have HSk := Lib.hid (fun h => HF.out.skip (i := i) h)
        have HHt := Lib.hid (fun h1 h2 => @FI.hit s.data.toList i h1 h2)
        have HCL := Lib.hid (cntN_le i)
        have hn2 : n ≤ i := by rw [HC.out]; exact HCL.out
        have hcd : (196 < i ∧ cd i = 64522 + (i : Int) - 197) ∨ (¬ 196 < i ∧ cd i = (i : Int)) := by
          unfold cd
          by_cases h : 196 < i
          · exact .inl ⟨h, if_pos h⟩
          · exact .inr ⟨h, if_neg h⟩
        obtain ⟨c, hc⟩ : ∃ c, c = cd i := ⟨_, rfl⟩
        rw [← hc] at hcd HM HSk HHt
        have HN1 := Lib.hid (fun W => HN.out c W (wf_small c (by rcases hcd with ⟨h1, h2⟩ | ⟨h1, h2⟩ <;> omega) (by rcases hcd with ⟨h1, h2⟩ | ⟨h1, h2⟩ <;> omega)))
        generalize nameL c = l at HM HSk HHt HN1
        clear hc
        have hcase : Hid (l = []) ∨ (Hid (l ≠ []) ∧ Hid (l = s.data.toList)) ∨ (Hid (l ≠ []) ∧ Hid (l ≠ s.data.toList)) := by
          by_cases h1 : l = []
          · exact .inl (Lib.hid h1)
          · by_cases h2 : l = s.data.toList
            · exact .inr (.inl ⟨Lib.hid h1, Lib.hid h2⟩)
            · exact .inr (.inr ⟨Lib.hid h1, Lib.hid h2⟩)
        rcases hcase with h1 | ⟨h1, h2⟩ | ⟨h1, h2⟩
        · obtain rfl := h1.out
          have HF2 := Lib.hid (HSk.out (.inl rfl))
          have HC2 : Hid (n = cntN (i + 1)) := Lib.hid (by rw [HM.out, HC.out]; rfl)
          have HN2 : Hid (∀ W, Calls Tryd.prog 32 #[.int .i64 c] W fun e w' => e = .returned (.string ⟨#[]⟩) ∧ Below W.heap.size W w') := Lib.hid HN1.out
          clear HN1 HSk HHt HM
          rcases hcd with ⟨hg, rfl⟩ | ⟨hg, rfl⟩
          all_goals
            go_wp2_with (go_at_call 32; (with_reducible refine (HN2.out _).mono ?_); rintro e w3 ⟨rfl, hb⟩
                         have HB3 := Lib.hid (HB1.out.trans (hb.mono HB1.out.size))
                         have HB4 := Lib.hid (HB2.out.trans (hb.mono HB2.out.size))
                         clear hb)
            go_roundw
            case rel => exact ⟨i + 1, f, by omega, by go_num, rfl, HF2, ⟨n, hn, rfl, HC2⟩, HB3, HB4⟩
            case measure => simp [intOf]; omega
        · have HF2 := Lib.hid (HHt.out h1.out h2.out)
          have HC2 : Hid (n + 1 = cntN (i + 1)) := Lib.hid (by rw [HM.out, HC.out, List.isEmpty_eq_false_iff.2 h1.out]; rfl)
          obtain ⟨q1, q2, q3⟩ := emp_facts (bsN_ne h1.out)
          have q4 : ((bsN l).toList == s.toList) = true := by rw [bsN_beq]; simpa using h2.out
          generalize bsN l = lb at HN1 q1 q2 q3 q4
          have HN2 := HN1
          clear HN1 HSk HHt HM h1 h2
          rcases hcd with ⟨hg, rfl⟩ | ⟨hg, rfl⟩
          all_goals
            go_wp2_with (go_at_call 32; (with_reducible refine (HN2.out _).mono ?_); rintro e w3 ⟨rfl, hb⟩
                         have HB3 := Lib.hid (HB1.out.trans (hb.mono HB1.out.size))
                         have HB4 := Lib.hid (HB2.out.trans (hb.mono HB2.out.size))
                         clear hb)
            go_roundw
            case rel => exact ⟨i + 1, _, by omega, by go_num, rfl, HF2, ⟨n + 1, by omega, by go_num, HC2⟩, HB3, HB4⟩
            case measure => simp [intOf]; omega
        · have HF2 := Lib.hid (HSk.out (.inr h2.out))
          have HC2 : Hid (n + 1 = cntN (i + 1)) := Lib.hid (by rw [HM.out, HC.out, List.isEmpty_eq_false_iff.2 h1.out]; rfl)
          obtain ⟨q1, q2, q3⟩ := emp_facts (bsN_ne h1.out)
          have q4 : ((bsN l).toList == s.toList) = false := by rw [bsN_beq]; simpa using h2.out
          generalize bsN l = lb at HN1 q1 q2 q3 q4
          have HN2 := HN1
          clear HN1 HSk HHt HM h1 h2
          rcases hcd with ⟨hg, rfl⟩ | ⟨hg, rfl⟩
          all_goals
            go_wp2_with (go_at_call 32; (with_reducible refine (HN2.out _).mono ?_); rintro e w3 ⟨rfl, hb⟩
                         have HB3 := Lib.hid (HB1.out.trans (hb.mono HB1.out.size))
                         have HB4 := Lib.hid (HB2.out.trans (hb.mono HB2.out.size))
                         clear hb)
            go_roundw
            case rel => exact ⟨i + 1, f, by omega, by go_num, rfl, HF2, ⟨n + 1, by omega, by go_num, HC2⟩, HB3, HB4⟩
            case measure => simp [intOf]; omega
      · obtain rfl : i = 199 := by omega
        have hn111 : n = 111 := by rw [HC.out, cntN_199]
        subst hn111
        have hx0 := (HB2.out.cell (p := ⟨wa.heap.size, 0, none⟩) HLT.out.2).trans HX0.out
        have HTr := Lib.hid (HT.out.below HB1.out HT.out.size)
        have hmax : max (111 : Int) 1 = 111 := by decide
        obtain ⟨u, m, hwr, hm, hm111⟩ := rem_facts kk
        rcases H3.out f HF.out with ⟨he, hf, hf0⟩ | ⟨he, hf⟩
        · first
          | exact absurd he (by decide)
          | (subst hf
             go_wp2_with (first
               | (go_at_call 42; (with_reducible refine (HL.out _ HTr.out).mono ?_); rintro e w3 ⟨v, xs, rfl, ho, hx, hb⟩
                  obtain ⟨Al, cl, rfl⟩ := own_slice ho
                  have HOL := Lib.hid ho
                  have HXL := Lib.hid hx
                  have HB3 : Hid (Below w.heap.size w w3) := Lib.hid (HB1.out.trans (hb.mono HB1.out.size))
                  have hx3 := (hb.cell (p := ⟨wa.heap.size, 0, none⟩) (Nat.lt_of_lt_of_le HLT.out.2 HB2.out.size)).trans hx0
                  clear ho hx hb hx0))
             obtain ⟨gl, rfl, xs0, xs1⟩ := list_at HOL.out HXL.out
             obtain ⟨⟨r, jj⟩, HR⟩ : ∃ q, Hid (OPS[m]? = some q) := ⟨_, Lib.hid (List.getElem?_eq_getElem (by rw [OPS_length]; exact hm111))⟩
             have HB0 : Hid (Below w3.heap.size w3 w3.drew) := Lib.hid (below_drewN (Below.refl _ _) 1)
             have HCL2 : Hid (∀ W, Below w3.heap.size w3 W → W.cell? ⟨gl, m * 5 + 1, none⟩ = some (.string (nmS r jj)) ∧ W.cell? ⟨gl, m * 5, none⟩ = some (.int .i64 ((r.first : Int) + (jj : Int)))) := Lib.hid (fun W hb => by
               obtain ⟨h1, h2⟩ := xs0 m r jj HR.out
               exact ⟨(hb.cell (p := ⟨gl, m * 5 + 1, none⟩) (lt_of_cell h1)).trans h1, (hb.cell (p := ⟨gl, m * 5, none⟩) (lt_of_cell h2)).trans h2⟩)
             have HOP : Hid (OpAt ((r.first : Int) + (jj : Int)) r jj) := Lib.hid ⟨List.mem_of_getElem? HR.out, rfl⟩
             have HNm : Hid (∀ W, Calls Tryd.prog 32 #[.int .i64 ((r.first : Int) + (jj : Int))] W fun e w' => e = .returned (.string (nmS r jj)) ∧ Below W.heap.size W w') := Lib.hid (fun W => by
               rw [name_of HOP.out]
               have hg := good_in (mem_OPS.1 HOP.out.1).1
               have h1 := hg.first
               have h2 := hg.words
               have h3 := (mem_OPS.1 HOP.out.1).2
               exact HN.out _ W (wf_small9 _ (by omega) (by omega)))
             have HD : Hid (decide ((m : Int) < 111) = true) := Lib.hid (by simp; omega)
             have HI1 : Hid ((0 : Int) ≤ (m : Int)) := Lib.hid (by omega)
             have HI2 : Hid ((m : Int) < 111) := Lib.hid (by omega)
             clear xs1
             by_cases hm0 : m = 0
             · have HM0 : Hid (((m : Int) == 0) = true) := Lib.hid (by simp; exact hm0)
               clear hm0
               clear xs0
               refine wp_region_held_drew (S := (fun W => Below w3.heap.size w3 W)) (by kernel_rfl) HB0.out (fun hHeld => ?_)
               refine wpAnyH_take (i := 0) (oi := ?oi_1) (v := ?_) ?hi_1 (by kernel_rfl) ?hf_1 (by kernel_rfl) ?hQ_1 ?hy_1 (by assumption) ?_
               case hi_1 => simp only [List.getElem?_toArray, List.getElem?_cons_zero, List.getElem?_cons_succ]; rfl
               case hf_1 => kernel_rfl
               case hQ_1 => exact fun _ _ _ h => h
               case hy_1 =>
                 refine Or.inl ⟨by rfl, ?_⟩
                 intro W hSw
                 go_simp
                 try with_reducible rfl
               try simp only [Act.put, List.setIfInBounds_toArray, List.set_cons_zero, List.set_cons_succ]
               refine wpAnyH_take (i := 1) (oi := ?oi_2) (v := ?_) ?hi_2 (by kernel_rfl) ?hf_2 (by kernel_rfl) ?hQ_2 ?hy_2 (by assumption) ?_
               case hi_2 => simp only [List.getElem?_toArray, List.getElem?_cons_zero, List.getElem?_cons_succ]; rfl
               case hf_2 => kernel_rfl
               case hQ_2 => exact fun _ _ _ h => h
               case hy_2 =>
                 refine Or.inl ⟨by rfl, ?_⟩
                 intro W hSw
                 go_simp
                 try with_reducible rfl
               try simp only [Act.put, List.setIfInBounds_toArray, List.set_cons_zero, List.set_cons_succ]
               refine wpAnyH_take (i := 2) (oi := ?oi_3) (v := ?_) ?hi_3 (by kernel_rfl) ?hf_3 (by kernel_rfl) ?hQ_3 ?hy_3 (by assumption) ?_
               case hi_3 => simp only [List.getElem?_toArray, List.getElem?_cons_zero, List.getElem?_cons_succ]; rfl
               case hf_3 => kernel_rfl
               case hQ_3 => exact fun _ _ _ h => h
               case hy_3 =>
                 refine Or.inl ⟨by rfl, ?_⟩
                 intro W hSw
                 go_simp
                 try with_reducible rfl
               try simp only [Act.put, List.setIfInBounds_toArray, List.set_cons_zero, List.set_cons_succ]
               refine wpAnyH_take (i := 3) (oi := ?oi_4) (v := ?_) ?hi_4 (by kernel_rfl) ?hf_4 (by kernel_rfl) ?hQ_4 ?hy_4 (by assumption) ?_
               case hi_4 => simp only [List.getElem?_toArray, List.getElem?_cons_zero, List.getElem?_cons_succ]; rfl
               case hf_4 => kernel_rfl
               case hQ_4 => exact fun _ _ _ h => h
               case hy_4 =>
                 refine Or.inl ⟨by rfl, ?_⟩
                 intro W hSw
                 have hd := HD.out
                 go_simp
                 try with_reducible rfl
               try simp only [Act.put, List.setIfInBounds_toArray, List.set_cons_zero, List.set_cons_succ]
               refine wpAnyH_take (i := 4) (oi := ?oi_5) (v := ?_) ?hi_5 (by kernel_rfl) ?hf_5 (by kernel_rfl) ?hQ_5 ?hy_5 (by assumption) ?_
               case hi_5 => simp only [List.getElem?_toArray, List.getElem?_cons_zero, List.getElem?_cons_succ]; rfl
               case hf_5 => kernel_rfl
               case hQ_5 => exact fun _ _ _ h => h
               case hy_5 =>
                 refine Or.inl ⟨by rfl, ?_⟩
                 intro W hSw
                 go_simp
                 try with_reducible rfl
               try simp only [Act.put, List.setIfInBounds_toArray, List.set_cons_zero, List.set_cons_succ]
               refine wpAnyH_take (i := 5) (oi := ?oi_6) (v := ?_) ?hi_6 (by kernel_rfl) ?hf_6 (by kernel_rfl) ?hQ_6 ?hy_6 (by assumption) ?_
               case hi_6 => simp only [List.getElem?_toArray, List.getElem?_cons_zero, List.getElem?_cons_succ]; rfl
               case hf_6 => kernel_rfl
               case hQ_6 => exact fun _ _ _ h => h
               case hy_6 =>
                 refine Or.inl ⟨by rfl, ?_⟩
                 intro W hSw
                 go_simp
                 try with_reducible rfl
               try simp only [Act.put, List.setIfInBounds_toArray, List.set_cons_zero, List.set_cons_succ]
               refine wpAnyH_take (i := 6) (oi := ?oi_7) (v := ?_) ?hi_7 (by kernel_rfl) ?hf_7 (by kernel_rfl) ?hQ_7 ?hy_7 (by assumption) ?_
               case hi_7 => simp only [List.getElem?_toArray, List.getElem?_cons_zero, List.getElem?_cons_succ]; rfl
               case hf_7 => kernel_rfl
               case hQ_7 => exact fun _ _ _ h => h
               case hy_7 =>
                 refine Or.inl ⟨by rfl, ?_⟩
                 intro W hSw
                 go_simp
                 try with_reducible rfl
               try simp only [Act.put, List.setIfInBounds_toArray, List.set_cons_zero, List.set_cons_succ]
               refine wpAnyH_take (i := 7) (oi := ?oi_8) (v := ?_) ?hi_8 (by kernel_rfl) ?hf_8 (by kernel_rfl) ?hQ_8 ?hy_8 (by assumption) ?_
               case hi_8 => simp only [List.getElem?_toArray, List.getElem?_cons_zero, List.getElem?_cons_succ]; rfl
               case hf_8 => kernel_rfl
               case hQ_8 => exact fun _ _ _ h => h
               case hy_8 =>
                 refine Or.inl ⟨by rfl, ?_⟩
                 intro W hSw
                 have hi1 := HI1.out
                 have hi2 := HI2.out
                 go_simp
                 try with_reducible rfl
               try simp only [Act.put, List.setIfInBounds_toArray, List.set_cons_zero, List.set_cons_succ]
               refine wpAnyH_take (i := 8) (oi := ?oi_9) (v := ?_) ?hi_9 (by kernel_rfl) ?hf_9 (by kernel_rfl) ?hQ_9 ?hy_9 (by assumption) ?_
               case hi_9 => simp only [List.getElem?_toArray, List.getElem?_cons_zero, List.getElem?_cons_succ]; rfl
               case hf_9 => kernel_rfl
               case hQ_9 => exact fun _ _ _ h => h
               case hy_9 =>
                 refine Or.inl ⟨by rfl, ?_⟩
                 intro W hSw
                 go_simp
                 try with_reducible rfl
               try simp only [Act.put, List.setIfInBounds_toArray, List.set_cons_zero, List.set_cons_succ]
               refine wpAnyH_take (i := 9) (oi := ?oi_10) (v := ?_) ?hi_10 (by kernel_rfl) ?hf_10 (by kernel_rfl) ?hQ_10 ?hy_10 (by assumption) ?_
               case hi_10 => simp only [List.getElem?_toArray, List.getElem?_cons_zero, List.getElem?_cons_succ]; rfl
               case hf_10 => kernel_rfl
               case hQ_10 => exact fun _ _ _ h => h
               case hy_10 =>
                 refine Or.inl ⟨by rfl, ?_⟩
                 intro W hSw
                 have xn := (HCL2.out W hSw).1
                 go_simp
                 try with_reducible rfl
               try simp only [Act.put, List.setIfInBounds_toArray, List.set_cons_zero, List.set_cons_succ]
               refine wpAnyH_take (i := 10) (oi := ?oi_11) (v := ?_) ?hi_11 (by kernel_rfl) ?hf_11 (by kernel_rfl) ?hQ_11 ?hy_11 (by assumption) ?_
               case hi_11 => simp only [List.getElem?_toArray, List.getElem?_cons_zero, List.getElem?_cons_succ]; rfl
               case hf_11 => kernel_rfl
               case hQ_11 => exact fun _ _ _ h => h
               case hy_11 =>
                 refine Or.inl ⟨by rfl, ?_⟩
                 intro W hSw
                 go_simp
                 try with_reducible rfl
               try simp only [Act.put, List.setIfInBounds_toArray, List.set_cons_zero, List.set_cons_succ]
               refine wpAnyH_take (i := 11) (oi := ?oi_12) (v := ?_) ?hi_12 (by kernel_rfl) ?hf_12 (by kernel_rfl) ?hQ_12 ?hy_12 (by assumption) ?_
               case hi_12 => simp only [List.getElem?_toArray, List.getElem?_cons_zero, List.getElem?_cons_succ]; rfl
               case hf_12 => kernel_rfl
               case hQ_12 => exact fun _ _ _ h => h
               case hy_12 =>
                 refine Or.inl ⟨by rfl, ?_⟩
                 intro W hSw
                 go_simp
                 try with_reducible rfl
               try simp only [Act.put, List.setIfInBounds_toArray, List.set_cons_zero, List.set_cons_succ]
               refine wpAnyH_take (i := 12) (oi := ?oi_13) (v := ?_) ?hi_13 (by kernel_rfl) ?hf_13 (by kernel_rfl) ?hQ_13 ?hy_13 (by assumption) ?_
               case hi_13 => simp only [List.getElem?_toArray, List.getElem?_cons_zero, List.getElem?_cons_succ]; rfl
               case hf_13 => kernel_rfl
               case hQ_13 => exact fun _ _ _ h => h
               case hy_13 =>
                 refine Or.inl ⟨by rfl, ?_⟩
                 intro W hSw
                 have hi1 := HI1.out
                 have hi2 := HI2.out
                 go_simp
                 try with_reducible rfl
               try simp only [Act.put, List.setIfInBounds_toArray, List.set_cons_zero, List.set_cons_succ]
               refine wpAnyH_take (i := 13) (oi := ?oi_14) (v := ?_) ?hi_14 (by kernel_rfl) ?hf_14 (by kernel_rfl) ?hQ_14 ?hy_14 (by assumption) ?_
               case hi_14 => simp only [List.getElem?_toArray, List.getElem?_cons_zero, List.getElem?_cons_succ]; rfl
               case hf_14 => kernel_rfl
               case hQ_14 => exact fun _ _ _ h => h
               case hy_14 =>
                 refine Or.inl ⟨by rfl, ?_⟩
                 intro W hSw
                 go_simp
                 try with_reducible rfl
               try simp only [Act.put, List.setIfInBounds_toArray, List.set_cons_zero, List.set_cons_succ]
               refine wpAnyH_take (i := 14) (oi := ?oi_15) (v := ?_) ?hi_15 (by kernel_rfl) ?hf_15 (by kernel_rfl) ?hQ_15 ?hy_15 (by assumption) ?_
               case hi_15 => simp only [List.getElem?_toArray, List.getElem?_cons_zero, List.getElem?_cons_succ]; rfl
               case hf_15 => kernel_rfl
               case hQ_15 => exact fun _ _ _ h => h
               case hy_15 =>
                 refine Or.inl ⟨by rfl, ?_⟩
                 intro W hSw
                 have xc := (HCL2.out W hSw).2
                 go_simp
                 try with_reducible rfl
               try simp only [Act.put, List.setIfInBounds_toArray, List.set_cons_zero, List.set_cons_succ]
               refine wpAnyH_ready (rs := [15]) (by kernel_rfl) (by simp) ?_
               refine AllReadyH.cons (o := ?oi_16) ?hi_16 (fun K hK => ?_) AllReadyH.nil
               case hi_16 => simp only [List.getElem?_toArray, List.getElem?_cons_zero, List.getElem?_cons_succ]; rfl
               go_simp
               (go_at_call 32
                with_reducible refine (HNm.out _).mono ?_
                rintro e wN ⟨rfl, hbN⟩
                have HBN : Hid (Below w3.heap.size w3 wN) := Lib.hid (HB0.out.trans (hbN.mono HB0.out.size))
                clear hbN)
               refine hK.out _ _ HBN.out (fun hHeld => ?_)
               clear hK K
               try simp only [Act.put, List.setIfInBounds_toArray, List.set_cons_zero, List.set_cons_succ]
               refine wpAnyH_take (i := 16) (oi := ?oi_17) (v := ?_) ?hi_17 (by kernel_rfl) ?hf_17 (by kernel_rfl) ?hQ_17 ?hy_17 (by assumption) ?_
               case hi_17 => simp only [List.getElem?_toArray, List.getElem?_cons_zero, List.getElem?_cons_succ]; rfl
               case hf_17 => kernel_rfl
               case hQ_17 => exact fun _ _ _ h => h
               case hy_17 =>
                 refine Or.inl ⟨by rfl, ?_⟩
                 intro W hSw
                 go_simp
                 try with_reducible rfl
               try simp only [Act.put, List.setIfInBounds_toArray, List.set_cons_zero, List.set_cons_succ]
               refine wpAnyH_take (i := 17) (oi := ?oi_18) (v := ?_) ?hi_18 (by kernel_rfl) ?hf_18 (by kernel_rfl) ?hQ_18 ?hy_18 (by assumption) ?_
               case hi_18 => simp only [List.getElem?_toArray, List.getElem?_cons_zero, List.getElem?_cons_succ]; rfl
               case hf_18 => kernel_rfl
               case hQ_18 => exact fun _ _ _ h => h
               case hy_18 =>
                 refine Or.inl ⟨by rfl, ?_⟩
                 intro W hSw
                 go_simp
                 try with_reducible rfl
               try simp only [Act.put, List.setIfInBounds_toArray, List.set_cons_zero, List.set_cons_succ]
               refine wpAnyH_take (i := 18) (oi := ?oi_19) (v := ?_) ?hi_19 (by kernel_rfl) ?hf_19 (by kernel_rfl) ?hQ_19 ?hy_19 (by assumption) ?_
               case hi_19 => simp only [List.getElem?_toArray, List.getElem?_cons_zero, List.getElem?_cons_succ]; rfl
               case hf_19 => kernel_rfl
               case hQ_19 => exact fun _ _ _ h => h
               case hy_19 =>
                 refine Or.inl ⟨by rfl, ?_⟩
                 intro W hSw
                 go_simp
                 try with_reducible rfl
               try simp only [Act.put, List.setIfInBounds_toArray, List.set_cons_zero, List.set_cons_succ]
               refine wpAnyH_take (i := 19) (oi := ?oi_20) (v := ?_) ?hi_20 (by kernel_rfl) ?hf_20 (by kernel_rfl) ?hQ_20 ?hy_20 (by assumption) ?_
               case hi_20 => simp only [List.getElem?_toArray, List.getElem?_cons_zero, List.getElem?_cons_succ]; rfl
               case hf_20 => kernel_rfl
               case hQ_20 => exact fun _ _ _ h => h
               case hy_20 =>
                 refine Or.inl ⟨by rfl, ?_⟩
                 intro W hSw
                 go_simp
                 try with_reducible rfl
               try simp only [Act.put, List.setIfInBounds_toArray, List.set_cons_zero, List.set_cons_succ]
               refine wpAnyH_take (i := 20) (oi := ?oi_21) (v := ?_) ?hi_21 (by kernel_rfl) ?hf_21 (by kernel_rfl) ?hQ_21 ?hy_21 (by assumption) ?_
               case hi_21 => simp only [List.getElem?_toArray, List.getElem?_cons_zero, List.getElem?_cons_succ]; rfl
               case hf_21 => kernel_rfl
               case hQ_21 => exact fun _ _ _ h => h
               case hy_21 =>
                 refine Or.inl ⟨by rfl, ?_⟩
                 intro W hSw
                 have hm0 := HM0.out
                 go_simp
                 try with_reducible rfl
               try simp only [Act.put, List.setIfInBounds_toArray, List.set_cons_zero, List.set_cons_succ]
               refine wpAnyH_take (i := 21) (oi := ?oi_22) (v := ?_) ?hi_22 (by kernel_rfl) ?hf_22 (by kernel_rfl) ?hQ_22 ?hy_22 (by assumption) ?_
               case hi_22 => simp only [List.getElem?_toArray, List.getElem?_cons_zero, List.getElem?_cons_succ]; rfl
               case hf_22 => kernel_rfl
               case hQ_22 => exact fun _ _ _ h => h
               case hy_22 =>
                 refine Or.inl ⟨by rfl, ?_⟩
                 intro W hSw
                 go_simp
                 try with_reducible rfl
               try simp only [Act.put, List.setIfInBounds_toArray, List.set_cons_zero, List.set_cons_succ]
               refine wpAnyH_take (i := 22) (oi := ?oi_23) (v := undef) ?hi_23 (by kernel_rfl) ?hf_23 (by kernel_rfl) ?hQ_23 ?hy_23 (by assumption) ?_
               case hi_23 => simp only [List.getElem?_toArray, List.getElem?_cons_zero, List.getElem?_cons_succ]; rfl
               case hf_23 => kernel_rfl
               case hQ_23 => exact fun _ _ _ h => h
               case hy_23 => exact Or.inr ⟨by rfl, rfl⟩
               try simp only [Act.put, List.setIfInBounds_toArray, List.set_cons_zero, List.set_cons_succ]
               refine wpAnyH_take (i := 23) (oi := ?oi_24) (v := undef) ?hi_24 (by kernel_rfl) ?hf_24 (by kernel_rfl) ?hQ_24 ?hy_24 (by assumption) ?_
               case hi_24 => simp only [List.getElem?_toArray, List.getElem?_cons_zero, List.getElem?_cons_succ]; rfl
               case hf_24 => kernel_rfl
               case hQ_24 => exact fun _ _ _ h => h
               case hy_24 => exact Or.inr ⟨by rfl, rfl⟩
               try simp only [Act.put, List.setIfInBounds_toArray, List.set_cons_zero, List.set_cons_succ]
               refine wpAnyH_take (i := 24) (oi := ?oi_25) (v := undef) ?hi_25 (by kernel_rfl) ?hf_25 (by kernel_rfl) ?hQ_25 ?hy_25 (by assumption) ?_
               case hi_25 => simp only [List.getElem?_toArray, List.getElem?_cons_zero, List.getElem?_cons_succ]; rfl
               case hf_25 => kernel_rfl
               case hQ_25 => exact fun _ _ _ h => h
               case hy_25 => exact Or.inr ⟨by rfl, rfl⟩
               try simp only [Act.put, List.setIfInBounds_toArray, List.set_cons_zero, List.set_cons_succ]
               refine wpAnyH_take (i := 25) (oi := ?oi_26) (v := undef) ?hi_26 (by kernel_rfl) ?hf_26 (by kernel_rfl) ?hQ_26 ?hy_26 (by assumption) ?_
               case hi_26 => simp only [List.getElem?_toArray, List.getElem?_cons_zero, List.getElem?_cons_succ]; rfl
               case hf_26 => kernel_rfl
               case hQ_26 => exact fun _ _ _ h => h
               case hy_26 => exact Or.inr ⟨by rfl, rfl⟩
               try simp only [Act.put, List.setIfInBounds_toArray, List.set_cons_zero, List.set_cons_succ]
               refine wpAnyH_take (i := 26) (oi := ?oi_27) (v := undef) ?hi_27 (by kernel_rfl) ?hf_27 (by kernel_rfl) ?hQ_27 ?hy_27 (by assumption) ?_
               case hi_27 => simp only [List.getElem?_toArray, List.getElem?_cons_zero, List.getElem?_cons_succ]; rfl
               case hf_27 => kernel_rfl
               case hQ_27 => exact fun _ _ _ h => h
               case hy_27 => exact Or.inr ⟨by rfl, rfl⟩
               try simp only [Act.put, List.setIfInBounds_toArray, List.set_cons_zero, List.set_cons_succ]
               refine wpAnyH_take (i := 27) (oi := ?oi_28) (v := undef) ?hi_28 (by kernel_rfl) ?hf_28 (by kernel_rfl) ?hQ_28 ?hy_28 (by assumption) ?_
               case hi_28 => simp only [List.getElem?_toArray, List.getElem?_cons_zero, List.getElem?_cons_succ]; rfl
               case hf_28 => kernel_rfl
               case hQ_28 => exact fun _ _ _ h => h
               case hy_28 => exact Or.inr ⟨by rfl, rfl⟩
               try simp only [Act.put, List.setIfInBounds_toArray, List.set_cons_zero, List.set_cons_succ]
               refine wpAnyH_take (i := 28) (oi := ?oi_29) (v := undef) ?hi_29 (by kernel_rfl) ?hf_29 (by kernel_rfl) ?hQ_29 ?hy_29 (by assumption) ?_
               case hi_29 => simp only [List.getElem?_toArray, List.getElem?_cons_zero, List.getElem?_cons_succ]; rfl
               case hf_29 => kernel_rfl
               case hQ_29 => exact fun _ _ _ h => h
               case hy_29 => exact Or.inr ⟨by rfl, rfl⟩
               try simp only [Act.put, List.setIfInBounds_toArray, List.set_cons_zero, List.set_cons_succ]
               refine wpAnyH_take (i := 29) (oi := ?oi_30) (v := undef) ?hi_30 (by kernel_rfl) ?hf_30 (by kernel_rfl) ?hQ_30 ?hy_30 (by assumption) ?_
               case hi_30 => simp only [List.getElem?_toArray, List.getElem?_cons_zero, List.getElem?_cons_succ]; rfl
               case hf_30 => kernel_rfl
               case hQ_30 => exact fun _ _ _ h => h
               case hy_30 => exact Or.inr ⟨by rfl, rfl⟩
               try simp only [Act.put, List.setIfInBounds_toArray, List.set_cons_zero, List.set_cons_succ]
               refine wpAnyH_take (i := 30) (oi := ?oi_31) (v := undef) ?hi_31 (by kernel_rfl) ?hf_31 (by kernel_rfl) ?hQ_31 ?hy_31 (by assumption) ?_
               case hi_31 => simp only [List.getElem?_toArray, List.getElem?_cons_zero, List.getElem?_cons_succ]; rfl
               case hf_31 => kernel_rfl
               case hQ_31 => exact fun _ _ _ h => h
               case hy_31 => exact Or.inr ⟨by rfl, rfl⟩
               try simp only [Act.put, List.setIfInBounds_toArray, List.set_cons_zero, List.set_cons_succ]
               refine wpAnyH_take (i := 31) (oi := ?oi_32) (v := undef) ?hi_32 (by kernel_rfl) ?hf_32 (by kernel_rfl) ?hQ_32 ?hy_32 (by assumption) ?_
               case hi_32 => simp only [List.getElem?_toArray, List.getElem?_cons_zero, List.getElem?_cons_succ]; rfl
               case hf_32 => kernel_rfl
               case hQ_32 => exact fun _ _ _ h => h
               case hy_32 => exact Or.inr ⟨by rfl, rfl⟩
               try simp only [Act.put, List.setIfInBounds_toArray, List.set_cons_zero, List.set_cons_succ]
               refine wpAnyH_take (i := 32) (oi := ?oi_33) (v := undef) ?hi_33 (by kernel_rfl) ?hf_33 (by kernel_rfl) ?hQ_33 ?hy_33 (by assumption) ?_
               case hi_33 => simp only [List.getElem?_toArray, List.getElem?_cons_zero, List.getElem?_cons_succ]; rfl
               case hf_33 => kernel_rfl
               case hQ_33 => exact fun _ _ _ h => h
               case hy_33 => exact Or.inr ⟨by rfl, rfl⟩
               try simp only [Act.put, List.setIfInBounds_toArray, List.set_cons_zero, List.set_cons_succ]
               refine wpAnyH_take (i := 33) (oi := ?oi_34) (v := undef) ?hi_34 (by kernel_rfl) ?hf_34 (by kernel_rfl) ?hQ_34 ?hy_34 (by assumption) ?_
               case hi_34 => simp only [List.getElem?_toArray, List.getElem?_cons_zero, List.getElem?_cons_succ]; rfl
               case hf_34 => kernel_rfl
               case hQ_34 => exact fun _ _ _ h => h
               case hy_34 => exact Or.inr ⟨by rfl, rfl⟩
               try simp only [Act.put, List.setIfInBounds_toArray, List.set_cons_zero, List.set_cons_succ]
               refine wpAnyH_take (i := 34) (oi := ?oi_35) (v := ?_) ?hi_35 (by kernel_rfl) ?hf_35 (by kernel_rfl) ?hQ_35 ?hy_35 (by assumption) ?_
               case hi_35 => simp only [List.getElem?_toArray, List.getElem?_cons_zero, List.getElem?_cons_succ]; rfl
               case hf_35 => kernel_rfl
               case hQ_35 => exact fun _ _ _ h => h
               case hy_35 =>
                 refine Or.inl ⟨by rfl, ?_⟩
                 intro W hSw
                 go_simp
                 try with_reducible rfl
               try simp only [Act.put, List.setIfInBounds_toArray, List.set_cons_zero, List.set_cons_succ]
               refine wpAnyH_take (i := 35) (oi := ?oi_36) (v := ?_) ?hi_36 (by kernel_rfl) ?hf_36 (by kernel_rfl) ?hQ_36 ?hy_36 (by assumption) ?_
               case hi_36 => simp only [List.getElem?_toArray, List.getElem?_cons_zero, List.getElem?_cons_succ]; rfl
               case hf_36 => kernel_rfl
               case hQ_36 => exact fun _ _ _ h => h
               case hy_36 =>
                 refine Or.inl ⟨by rfl, ?_⟩
                 intro W hSw
                 go_simp
                 try with_reducible rfl
               try simp only [Act.put, List.setIfInBounds_toArray, List.set_cons_zero, List.set_cons_succ]
               refine wpAnyH_take (i := 36) (oi := ?oi_37) (v := ?_) ?hi_37 (by kernel_rfl) ?hf_37 (by kernel_rfl) ?hQ_37 ?hy_37 (by assumption) ?_
               case hi_37 => simp only [List.getElem?_toArray, List.getElem?_cons_zero, List.getElem?_cons_succ]; rfl
               case hf_37 => kernel_rfl
               case hQ_37 => exact fun _ _ _ h => h
               case hy_37 =>
                 refine Or.inl ⟨by rfl, ?_⟩
                 intro W hSw
                 go_simp
                 try with_reducible rfl
               try simp only [Act.put, List.setIfInBounds_toArray, List.set_cons_zero, List.set_cons_succ]
               refine wpAnyH_ready (rs := [37]) (by kernel_rfl) (by simp) ?_
               refine AllReadyH.cons (o := ?oi_38) ?hi_38 (fun K hK => ?_) AllReadyH.nil
               case hi_38 => simp only [List.getElem?_toArray, List.getElem?_cons_zero, List.getElem?_cons_succ]; rfl
               go_simp
               (go_at_call 37
                with_reducible refine (HW.out _ (HT.out.below (HB3.out.trans (HBN.out.mono HB3.out.size)) HT.out.size)).mono ?_
                rintro e wF ⟨rfl, hbF⟩
                have HBF : Hid (Below w3.heap.size w3 wF) := Lib.hid (HBN.out.trans (hbF.mono HBN.out.size))
                clear hbF)
               refine hK.out _ _ HBF.out (fun hHeld => ?_)
               clear hK K
               try simp only [Act.put, List.setIfInBounds_toArray, List.set_cons_zero, List.set_cons_succ]
               refine wpAnyH_take (i := 38) (oi := ?oi_39) (v := ?_) ?hi_39 (by kernel_rfl) ?hf_39 (by kernel_rfl) ?hQ_39 ?hy_39 (by assumption) ?_
               case hi_39 => simp only [List.getElem?_toArray, List.getElem?_cons_zero, List.getElem?_cons_succ]; rfl
               case hf_39 => kernel_rfl
               case hQ_39 => exact fun _ _ _ h => h
               case hy_39 =>
                 refine Or.inl ⟨by rfl, ?_⟩
                 intro W hSw
                 go_simp
                 try with_reducible rfl
               try simp only [Act.put, List.setIfInBounds_toArray, List.set_cons_zero, List.set_cons_succ]
               refine wpAnyH_take (i := 39) (oi := ?oi_40) (v := ?_) ?hi_40 (by kernel_rfl) ?hf_40 (by kernel_rfl) ?hQ_40 ?hy_40 (by assumption) ?_
               case hi_40 => simp only [List.getElem?_toArray, List.getElem?_cons_zero, List.getElem?_cons_succ]; rfl
               case hf_40 => kernel_rfl
               case hQ_40 => exact fun _ _ _ h => h
               case hy_40 =>
                 refine Or.inl ⟨by rfl, ?_⟩
                 intro W hSw
                 go_simp
                 try with_reducible rfl
               try simp only [Act.put, List.setIfInBounds_toArray, List.set_cons_zero, List.set_cons_succ]
               refine wpAnyH_done (by kernel_rfl) ?_ _
               clear hHeld
               go_wp2
               go_ret
               exact ⟨rfl, HB3.out.trans (HBF.out.mono HB3.out.size)⟩
             · obtain ⟨pp, hpp⟩ : ∃ pp, m = pp + 1 := ⟨m - 1, by omega⟩
               have HM0 : Hid (((m : Int) == 0) = false) := Lib.hid (by simp; exact hm0)
               have HW1 : Hid (IntKind.i64.wrap ((m : Int) - 1) = (pp : Int)) := Lib.hid (by rw [IntKind.wrap_i64]; omega)
               have HI3 : Hid ((0 : Int) ≤ (pp : Int)) := Lib.hid (by omega)
               have HI4 : Hid ((pp : Int) < 111) := Lib.hid (by omega)
               obtain ⟨⟨r2, j2⟩, HR2⟩ : ∃ q, Hid (OPS[pp]? = some q) := ⟨_, Lib.hid (List.getElem?_eq_getElem (by rw [OPS_length]; omega))⟩
               have HCL3 : Hid (∀ W, Below w3.heap.size w3 W → W.cell? ⟨gl, pp * 5, none⟩ = some (.int .i64 ((r2.first : Int) + (j2 : Int)))) := Lib.hid (fun W hb => by
                 obtain ⟨_, h2⟩ := xs0 pp r2 j2 HR2.out
                 exact (hb.cell (p := ⟨gl, pp * 5, none⟩) (lt_of_cell h2)).trans h2)
               have HDC : Hid (decide ((r2.first : Int) + (j2 : Int) < (r.first : Int) + (jj : Int)) = true) := Lib.hid (by
                 have h1 := HR.out
                 rw [hpp] at h1
                 have := rises HR2.out h1
                 simp only at this
                 simp; omega)
               clear hm0 hpp
               clear xs0
               refine wp_region_held_drew (S := (fun W => Below w3.heap.size w3 W)) (by kernel_rfl) HB0.out (fun hHeld => ?_)
               refine wpAnyH_take (i := 0) (oi := ?oi_41) (v := ?_) ?hi_41 (by kernel_rfl) ?hf_41 (by kernel_rfl) ?hQ_41 ?hy_41 (by assumption) ?_
               case hi_41 => simp only [List.getElem?_toArray, List.getElem?_cons_zero, List.getElem?_cons_succ]; rfl
               case hf_41 => kernel_rfl
               case hQ_41 => exact fun _ _ _ h => h
               case hy_41 =>
                 refine Or.inl ⟨by rfl, ?_⟩
                 intro W hSw
                 go_simp
                 try with_reducible rfl
               try simp only [Act.put, List.setIfInBounds_toArray, List.set_cons_zero, List.set_cons_succ]
               refine wpAnyH_take (i := 1) (oi := ?oi_42) (v := ?_) ?hi_42 (by kernel_rfl) ?hf_42 (by kernel_rfl) ?hQ_42 ?hy_42 (by assumption) ?_
               case hi_42 => simp only [List.getElem?_toArray, List.getElem?_cons_zero, List.getElem?_cons_succ]; rfl
               case hf_42 => kernel_rfl
               case hQ_42 => exact fun _ _ _ h => h
               case hy_42 =>
                 refine Or.inl ⟨by rfl, ?_⟩
                 intro W hSw
                 go_simp
                 try with_reducible rfl
               try simp only [Act.put, List.setIfInBounds_toArray, List.set_cons_zero, List.set_cons_succ]
               refine wpAnyH_take (i := 2) (oi := ?oi_43) (v := ?_) ?hi_43 (by kernel_rfl) ?hf_43 (by kernel_rfl) ?hQ_43 ?hy_43 (by assumption) ?_
               case hi_43 => simp only [List.getElem?_toArray, List.getElem?_cons_zero, List.getElem?_cons_succ]; rfl
               case hf_43 => kernel_rfl
               case hQ_43 => exact fun _ _ _ h => h
               case hy_43 =>
                 refine Or.inl ⟨by rfl, ?_⟩
                 intro W hSw
                 go_simp
                 try with_reducible rfl
               try simp only [Act.put, List.setIfInBounds_toArray, List.set_cons_zero, List.set_cons_succ]
               refine wpAnyH_take (i := 3) (oi := ?oi_44) (v := ?_) ?hi_44 (by kernel_rfl) ?hf_44 (by kernel_rfl) ?hQ_44 ?hy_44 (by assumption) ?_
               case hi_44 => simp only [List.getElem?_toArray, List.getElem?_cons_zero, List.getElem?_cons_succ]; rfl
               case hf_44 => kernel_rfl
               case hQ_44 => exact fun _ _ _ h => h
               case hy_44 =>
                 refine Or.inl ⟨by rfl, ?_⟩
                 intro W hSw
                 have hd := HD.out
                 go_simp
                 try with_reducible rfl
               try simp only [Act.put, List.setIfInBounds_toArray, List.set_cons_zero, List.set_cons_succ]
               refine wpAnyH_take (i := 4) (oi := ?oi_45) (v := ?_) ?hi_45 (by kernel_rfl) ?hf_45 (by kernel_rfl) ?hQ_45 ?hy_45 (by assumption) ?_
               case hi_45 => simp only [List.getElem?_toArray, List.getElem?_cons_zero, List.getElem?_cons_succ]; rfl
               case hf_45 => kernel_rfl
               case hQ_45 => exact fun _ _ _ h => h
               case hy_45 =>
                 refine Or.inl ⟨by rfl, ?_⟩
                 intro W hSw
                 go_simp
                 try with_reducible rfl
               try simp only [Act.put, List.setIfInBounds_toArray, List.set_cons_zero, List.set_cons_succ]
               refine wpAnyH_take (i := 5) (oi := ?oi_46) (v := ?_) ?hi_46 (by kernel_rfl) ?hf_46 (by kernel_rfl) ?hQ_46 ?hy_46 (by assumption) ?_
               case hi_46 => simp only [List.getElem?_toArray, List.getElem?_cons_zero, List.getElem?_cons_succ]; rfl
               case hf_46 => kernel_rfl
               case hQ_46 => exact fun _ _ _ h => h
               case hy_46 =>
                 refine Or.inl ⟨by rfl, ?_⟩
                 intro W hSw
                 go_simp
                 try with_reducible rfl
               try simp only [Act.put, List.setIfInBounds_toArray, List.set_cons_zero, List.set_cons_succ]
               refine wpAnyH_take (i := 6) (oi := ?oi_47) (v := ?_) ?hi_47 (by kernel_rfl) ?hf_47 (by kernel_rfl) ?hQ_47 ?hy_47 (by assumption) ?_
               case hi_47 => simp only [List.getElem?_toArray, List.getElem?_cons_zero, List.getElem?_cons_succ]; rfl
               case hf_47 => kernel_rfl
               case hQ_47 => exact fun _ _ _ h => h
               case hy_47 =>
                 refine Or.inl ⟨by rfl, ?_⟩
                 intro W hSw
                 go_simp
                 try with_reducible rfl
               try simp only [Act.put, List.setIfInBounds_toArray, List.set_cons_zero, List.set_cons_succ]
               refine wpAnyH_take (i := 7) (oi := ?oi_48) (v := ?_) ?hi_48 (by kernel_rfl) ?hf_48 (by kernel_rfl) ?hQ_48 ?hy_48 (by assumption) ?_
               case hi_48 => simp only [List.getElem?_toArray, List.getElem?_cons_zero, List.getElem?_cons_succ]; rfl
               case hf_48 => kernel_rfl
               case hQ_48 => exact fun _ _ _ h => h
               case hy_48 =>
                 refine Or.inl ⟨by rfl, ?_⟩
                 intro W hSw
                 have hi1 := HI1.out
                 have hi2 := HI2.out
                 go_simp
                 try with_reducible rfl
               try simp only [Act.put, List.setIfInBounds_toArray, List.set_cons_zero, List.set_cons_succ]
               refine wpAnyH_take (i := 8) (oi := ?oi_49) (v := ?_) ?hi_49 (by kernel_rfl) ?hf_49 (by kernel_rfl) ?hQ_49 ?hy_49 (by assumption) ?_
               case hi_49 => simp only [List.getElem?_toArray, List.getElem?_cons_zero, List.getElem?_cons_succ]; rfl
               case hf_49 => kernel_rfl
               case hQ_49 => exact fun _ _ _ h => h
               case hy_49 =>
                 refine Or.inl ⟨by rfl, ?_⟩
                 intro W hSw
                 go_simp
                 try with_reducible rfl
               try simp only [Act.put, List.setIfInBounds_toArray, List.set_cons_zero, List.set_cons_succ]
               refine wpAnyH_take (i := 9) (oi := ?oi_50) (v := ?_) ?hi_50 (by kernel_rfl) ?hf_50 (by kernel_rfl) ?hQ_50 ?hy_50 (by assumption) ?_
               case hi_50 => simp only [List.getElem?_toArray, List.getElem?_cons_zero, List.getElem?_cons_succ]; rfl
               case hf_50 => kernel_rfl
               case hQ_50 => exact fun _ _ _ h => h
               case hy_50 =>
                 refine Or.inl ⟨by rfl, ?_⟩
                 intro W hSw
                 have xn := (HCL2.out W hSw).1
                 go_simp
                 try with_reducible rfl
               try simp only [Act.put, List.setIfInBounds_toArray, List.set_cons_zero, List.set_cons_succ]
               refine wpAnyH_take (i := 10) (oi := ?oi_51) (v := ?_) ?hi_51 (by kernel_rfl) ?hf_51 (by kernel_rfl) ?hQ_51 ?hy_51 (by assumption) ?_
               case hi_51 => simp only [List.getElem?_toArray, List.getElem?_cons_zero, List.getElem?_cons_succ]; rfl
               case hf_51 => kernel_rfl
               case hQ_51 => exact fun _ _ _ h => h
               case hy_51 =>
                 refine Or.inl ⟨by rfl, ?_⟩
                 intro W hSw
                 go_simp
                 try with_reducible rfl
               try simp only [Act.put, List.setIfInBounds_toArray, List.set_cons_zero, List.set_cons_succ]
               refine wpAnyH_take (i := 11) (oi := ?oi_52) (v := ?_) ?hi_52 (by kernel_rfl) ?hf_52 (by kernel_rfl) ?hQ_52 ?hy_52 (by assumption) ?_
               case hi_52 => simp only [List.getElem?_toArray, List.getElem?_cons_zero, List.getElem?_cons_succ]; rfl
               case hf_52 => kernel_rfl
               case hQ_52 => exact fun _ _ _ h => h
               case hy_52 =>
                 refine Or.inl ⟨by rfl, ?_⟩
                 intro W hSw
                 go_simp
                 try with_reducible rfl
               try simp only [Act.put, List.setIfInBounds_toArray, List.set_cons_zero, List.set_cons_succ]
               refine wpAnyH_take (i := 12) (oi := ?oi_53) (v := ?_) ?hi_53 (by kernel_rfl) ?hf_53 (by kernel_rfl) ?hQ_53 ?hy_53 (by assumption) ?_
               case hi_53 => simp only [List.getElem?_toArray, List.getElem?_cons_zero, List.getElem?_cons_succ]; rfl
               case hf_53 => kernel_rfl
               case hQ_53 => exact fun _ _ _ h => h
               case hy_53 =>
                 refine Or.inl ⟨by rfl, ?_⟩
                 intro W hSw
                 have hi1 := HI1.out
                 have hi2 := HI2.out
                 go_simp
                 try with_reducible rfl
               try simp only [Act.put, List.setIfInBounds_toArray, List.set_cons_zero, List.set_cons_succ]
               refine wpAnyH_take (i := 13) (oi := ?oi_54) (v := ?_) ?hi_54 (by kernel_rfl) ?hf_54 (by kernel_rfl) ?hQ_54 ?hy_54 (by assumption) ?_
               case hi_54 => simp only [List.getElem?_toArray, List.getElem?_cons_zero, List.getElem?_cons_succ]; rfl
               case hf_54 => kernel_rfl
               case hQ_54 => exact fun _ _ _ h => h
               case hy_54 =>
                 refine Or.inl ⟨by rfl, ?_⟩
                 intro W hSw
                 go_simp
                 try with_reducible rfl
               try simp only [Act.put, List.setIfInBounds_toArray, List.set_cons_zero, List.set_cons_succ]
               refine wpAnyH_take (i := 14) (oi := ?oi_55) (v := ?_) ?hi_55 (by kernel_rfl) ?hf_55 (by kernel_rfl) ?hQ_55 ?hy_55 (by assumption) ?_
               case hi_55 => simp only [List.getElem?_toArray, List.getElem?_cons_zero, List.getElem?_cons_succ]; rfl
               case hf_55 => kernel_rfl
               case hQ_55 => exact fun _ _ _ h => h
               case hy_55 =>
                 refine Or.inl ⟨by rfl, ?_⟩
                 intro W hSw
                 have xc := (HCL2.out W hSw).2
                 go_simp
                 try with_reducible rfl
               try simp only [Act.put, List.setIfInBounds_toArray, List.set_cons_zero, List.set_cons_succ]
               refine wpAnyH_ready (rs := [15]) (by kernel_rfl) (by simp) ?_
               refine AllReadyH.cons (o := ?oi_56) ?hi_56 (fun K hK => ?_) AllReadyH.nil
               case hi_56 => simp only [List.getElem?_toArray, List.getElem?_cons_zero, List.getElem?_cons_succ]; rfl
               go_simp
               (go_at_call 32
                with_reducible refine (HNm.out _).mono ?_
                rintro e wN ⟨rfl, hbN⟩
                have HBN : Hid (Below w3.heap.size w3 wN) := Lib.hid (HB0.out.trans (hbN.mono HB0.out.size))
                clear hbN)
               refine hK.out _ _ HBN.out (fun hHeld => ?_)
               clear hK K
               try simp only [Act.put, List.setIfInBounds_toArray, List.set_cons_zero, List.set_cons_succ]
               refine wpAnyH_take (i := 16) (oi := ?oi_57) (v := ?_) ?hi_57 (by kernel_rfl) ?hf_57 (by kernel_rfl) ?hQ_57 ?hy_57 (by assumption) ?_
               case hi_57 => simp only [List.getElem?_toArray, List.getElem?_cons_zero, List.getElem?_cons_succ]; rfl
               case hf_57 => kernel_rfl
               case hQ_57 => exact fun _ _ _ h => h
               case hy_57 =>
                 refine Or.inl ⟨by rfl, ?_⟩
                 intro W hSw
                 go_simp
                 try with_reducible rfl
               try simp only [Act.put, List.setIfInBounds_toArray, List.set_cons_zero, List.set_cons_succ]
               refine wpAnyH_take (i := 17) (oi := ?oi_58) (v := ?_) ?hi_58 (by kernel_rfl) ?hf_58 (by kernel_rfl) ?hQ_58 ?hy_58 (by assumption) ?_
               case hi_58 => simp only [List.getElem?_toArray, List.getElem?_cons_zero, List.getElem?_cons_succ]; rfl
               case hf_58 => kernel_rfl
               case hQ_58 => exact fun _ _ _ h => h
               case hy_58 =>
                 refine Or.inl ⟨by rfl, ?_⟩
                 intro W hSw
                 go_simp
                 try with_reducible rfl
               try simp only [Act.put, List.setIfInBounds_toArray, List.set_cons_zero, List.set_cons_succ]
               refine wpAnyH_take (i := 18) (oi := ?oi_59) (v := ?_) ?hi_59 (by kernel_rfl) ?hf_59 (by kernel_rfl) ?hQ_59 ?hy_59 (by assumption) ?_
               case hi_59 => simp only [List.getElem?_toArray, List.getElem?_cons_zero, List.getElem?_cons_succ]; rfl
               case hf_59 => kernel_rfl
               case hQ_59 => exact fun _ _ _ h => h
               case hy_59 =>
                 refine Or.inl ⟨by rfl, ?_⟩
                 intro W hSw
                 go_simp
                 try with_reducible rfl
               try simp only [Act.put, List.setIfInBounds_toArray, List.set_cons_zero, List.set_cons_succ]
               refine wpAnyH_take (i := 19) (oi := ?oi_60) (v := ?_) ?hi_60 (by kernel_rfl) ?hf_60 (by kernel_rfl) ?hQ_60 ?hy_60 (by assumption) ?_
               case hi_60 => simp only [List.getElem?_toArray, List.getElem?_cons_zero, List.getElem?_cons_succ]; rfl
               case hf_60 => kernel_rfl
               case hQ_60 => exact fun _ _ _ h => h
               case hy_60 =>
                 refine Or.inl ⟨by rfl, ?_⟩
                 intro W hSw
                 go_simp
                 try with_reducible rfl
               try simp only [Act.put, List.setIfInBounds_toArray, List.set_cons_zero, List.set_cons_succ]
               refine wpAnyH_take (i := 20) (oi := ?oi_61) (v := ?_) ?hi_61 (by kernel_rfl) ?hf_61 (by kernel_rfl) ?hQ_61 ?hy_61 (by assumption) ?_
               case hi_61 => simp only [List.getElem?_toArray, List.getElem?_cons_zero, List.getElem?_cons_succ]; rfl
               case hf_61 => kernel_rfl
               case hQ_61 => exact fun _ _ _ h => h
               case hy_61 =>
                 refine Or.inl ⟨by rfl, ?_⟩
                 intro W hSw
                 have hm0 := HM0.out
                 go_simp
                 try with_reducible rfl
               try simp only [Act.put, List.setIfInBounds_toArray, List.set_cons_zero, List.set_cons_succ]
               refine wpAnyH_take (i := 21) (oi := ?oi_62) (v := ?_) ?hi_62 (by kernel_rfl) ?hf_62 (by kernel_rfl) ?hQ_62 ?hy_62 (by assumption) ?_
               case hi_62 => simp only [List.getElem?_toArray, List.getElem?_cons_zero, List.getElem?_cons_succ]; rfl
               case hf_62 => kernel_rfl
               case hQ_62 => exact fun _ _ _ h => h
               case hy_62 =>
                 refine Or.inl ⟨by rfl, ?_⟩
                 intro W hSw
                 go_simp
                 try with_reducible rfl
               try simp only [Act.put, List.setIfInBounds_toArray, List.set_cons_zero, List.set_cons_succ]
               refine wpAnyH_take (i := 22) (oi := ?oi_63) (v := ?_) ?hi_63 (by kernel_rfl) ?hf_63 (by kernel_rfl) ?hQ_63 ?hy_63 (by assumption) ?_
               case hi_63 => simp only [List.getElem?_toArray, List.getElem?_cons_zero, List.getElem?_cons_succ]; rfl
               case hf_63 => kernel_rfl
               case hQ_63 => exact fun _ _ _ h => h
               case hy_63 =>
                 refine Or.inl ⟨by rfl, ?_⟩
                 intro W hSw
                 go_simp
                 try with_reducible rfl
               try simp only [Act.put, List.setIfInBounds_toArray, List.set_cons_zero, List.set_cons_succ]
               refine wpAnyH_take (i := 23) (oi := ?oi_64) (v := ?_) ?hi_64 (by kernel_rfl) ?hf_64 (by kernel_rfl) ?hQ_64 ?hy_64 (by assumption) ?_
               case hi_64 => simp only [List.getElem?_toArray, List.getElem?_cons_zero, List.getElem?_cons_succ]; rfl
               case hf_64 => kernel_rfl
               case hQ_64 => exact fun _ _ _ h => h
               case hy_64 =>
                 refine Or.inl ⟨by rfl, ?_⟩
                 intro W hSw
                 go_simp
                 try with_reducible rfl
               try simp only [Act.put, List.setIfInBounds_toArray, List.set_cons_zero, List.set_cons_succ]
               refine wpAnyH_take (i := 24) (oi := ?oi_65) (v := ?_) ?hi_65 (by kernel_rfl) ?hf_65 (by kernel_rfl) ?hQ_65 ?hy_65 (by assumption) ?_
               case hi_65 => simp only [List.getElem?_toArray, List.getElem?_cons_zero, List.getElem?_cons_succ]; rfl
               case hf_65 => kernel_rfl
               case hQ_65 => exact fun _ _ _ h => h
               case hy_65 =>
                 refine Or.inl ⟨by rfl, ?_⟩
                 intro W hSw
                 have hw1 := HW1.out
                 go_simp
                 try with_reducible rfl
               try simp only [Act.put, List.setIfInBounds_toArray, List.set_cons_zero, List.set_cons_succ]
               refine wpAnyH_take (i := 25) (oi := ?oi_66) (v := ?_) ?hi_66 (by kernel_rfl) ?hf_66 (by kernel_rfl) ?hQ_66 ?hy_66 (by assumption) ?_
               case hi_66 => simp only [List.getElem?_toArray, List.getElem?_cons_zero, List.getElem?_cons_succ]; rfl
               case hf_66 => kernel_rfl
               case hQ_66 => exact fun _ _ _ h => h
               case hy_66 =>
                 refine Or.inl ⟨by rfl, ?_⟩
                 intro W hSw
                 have hi1 := HI3.out
                 have hi2 := HI4.out
                 go_simp
                 try with_reducible rfl
               try simp only [Act.put, List.setIfInBounds_toArray, List.set_cons_zero, List.set_cons_succ]
               refine wpAnyH_take (i := 26) (oi := ?oi_67) (v := ?_) ?hi_67 (by kernel_rfl) ?hf_67 (by kernel_rfl) ?hQ_67 ?hy_67 (by assumption) ?_
               case hi_67 => simp only [List.getElem?_toArray, List.getElem?_cons_zero, List.getElem?_cons_succ]; rfl
               case hf_67 => kernel_rfl
               case hQ_67 => exact fun _ _ _ h => h
               case hy_67 =>
                 refine Or.inl ⟨by rfl, ?_⟩
                 intro W hSw
                 go_simp
                 try with_reducible rfl
               try simp only [Act.put, List.setIfInBounds_toArray, List.set_cons_zero, List.set_cons_succ]
               refine wpAnyH_take (i := 27) (oi := ?oi_68) (v := ?_) ?hi_68 (by kernel_rfl) ?hf_68 (by kernel_rfl) ?hQ_68 ?hy_68 (by assumption) ?_
               case hi_68 => simp only [List.getElem?_toArray, List.getElem?_cons_zero, List.getElem?_cons_succ]; rfl
               case hf_68 => kernel_rfl
               case hQ_68 => exact fun _ _ _ h => h
               case hy_68 =>
                 refine Or.inl ⟨by rfl, ?_⟩
                 intro W hSw
                 have xp := HCL3.out W hSw
                 go_simp
                 try with_reducible rfl
               try simp only [Act.put, List.setIfInBounds_toArray, List.set_cons_zero, List.set_cons_succ]
               refine wpAnyH_take (i := 28) (oi := ?oi_69) (v := ?_) ?hi_69 (by kernel_rfl) ?hf_69 (by kernel_rfl) ?hQ_69 ?hy_69 (by assumption) ?_
               case hi_69 => simp only [List.getElem?_toArray, List.getElem?_cons_zero, List.getElem?_cons_succ]; rfl
               case hf_69 => kernel_rfl
               case hQ_69 => exact fun _ _ _ h => h
               case hy_69 =>
                 refine Or.inl ⟨by rfl, ?_⟩
                 intro W hSw
                 go_simp
                 try with_reducible rfl
               try simp only [Act.put, List.setIfInBounds_toArray, List.set_cons_zero, List.set_cons_succ]
               refine wpAnyH_take (i := 29) (oi := ?oi_70) (v := ?_) ?hi_70 (by kernel_rfl) ?hf_70 (by kernel_rfl) ?hQ_70 ?hy_70 (by assumption) ?_
               case hi_70 => simp only [List.getElem?_toArray, List.getElem?_cons_zero, List.getElem?_cons_succ]; rfl
               case hf_70 => kernel_rfl
               case hQ_70 => exact fun _ _ _ h => h
               case hy_70 =>
                 refine Or.inl ⟨by rfl, ?_⟩
                 intro W hSw
                 go_simp
                 try with_reducible rfl
               try simp only [Act.put, List.setIfInBounds_toArray, List.set_cons_zero, List.set_cons_succ]
               refine wpAnyH_take (i := 30) (oi := ?oi_71) (v := ?_) ?hi_71 (by kernel_rfl) ?hf_71 (by kernel_rfl) ?hQ_71 ?hy_71 (by assumption) ?_
               case hi_71 => simp only [List.getElem?_toArray, List.getElem?_cons_zero, List.getElem?_cons_succ]; rfl
               case hf_71 => kernel_rfl
               case hQ_71 => exact fun _ _ _ h => h
               case hy_71 =>
                 refine Or.inl ⟨by rfl, ?_⟩
                 intro W hSw
                 have hi1 := HI1.out
                 have hi2 := HI2.out
                 go_simp
                 try with_reducible rfl
               try simp only [Act.put, List.setIfInBounds_toArray, List.set_cons_zero, List.set_cons_succ]
               refine wpAnyH_take (i := 31) (oi := ?oi_72) (v := ?_) ?hi_72 (by kernel_rfl) ?hf_72 (by kernel_rfl) ?hQ_72 ?hy_72 (by assumption) ?_
               case hi_72 => simp only [List.getElem?_toArray, List.getElem?_cons_zero, List.getElem?_cons_succ]; rfl
               case hf_72 => kernel_rfl
               case hQ_72 => exact fun _ _ _ h => h
               case hy_72 =>
                 refine Or.inl ⟨by rfl, ?_⟩
                 intro W hSw
                 go_simp
                 try with_reducible rfl
               try simp only [Act.put, List.setIfInBounds_toArray, List.set_cons_zero, List.set_cons_succ]
               refine wpAnyH_take (i := 32) (oi := ?oi_73) (v := ?_) ?hi_73 (by kernel_rfl) ?hf_73 (by kernel_rfl) ?hQ_73 ?hy_73 (by assumption) ?_
               case hi_73 => simp only [List.getElem?_toArray, List.getElem?_cons_zero, List.getElem?_cons_succ]; rfl
               case hf_73 => kernel_rfl
               case hQ_73 => exact fun _ _ _ h => h
               case hy_73 =>
                 refine Or.inl ⟨by rfl, ?_⟩
                 intro W hSw
                 have xc := (HCL2.out W hSw).2
                 go_simp
                 try with_reducible rfl
               try simp only [Act.put, List.setIfInBounds_toArray, List.set_cons_zero, List.set_cons_succ]
               refine wpAnyH_take (i := 33) (oi := ?oi_74) (v := ?_) ?hi_74 (by kernel_rfl) ?hf_74 (by kernel_rfl) ?hQ_74 ?hy_74 (by assumption) ?_
               case hi_74 => simp only [List.getElem?_toArray, List.getElem?_cons_zero, List.getElem?_cons_succ]; rfl
               case hf_74 => kernel_rfl
               case hQ_74 => exact fun _ _ _ h => h
               case hy_74 =>
                 refine Or.inl ⟨by rfl, ?_⟩
                 intro W hSw
                 have hdc := HDC.out
                 go_simp
                 try with_reducible rfl
               try simp only [Act.put, List.setIfInBounds_toArray, List.set_cons_zero, List.set_cons_succ]
               refine wpAnyH_take (i := 34) (oi := ?oi_75) (v := ?_) ?hi_75 (by kernel_rfl) ?hf_75 (by kernel_rfl) ?hQ_75 ?hy_75 (by assumption) ?_
               case hi_75 => simp only [List.getElem?_toArray, List.getElem?_cons_zero, List.getElem?_cons_succ]; rfl
               case hf_75 => kernel_rfl
               case hQ_75 => exact fun _ _ _ h => h
               case hy_75 =>
                 refine Or.inl ⟨by rfl, ?_⟩
                 intro W hSw
                 go_simp
                 try with_reducible rfl
               try simp only [Act.put, List.setIfInBounds_toArray, List.set_cons_zero, List.set_cons_succ]
               refine wpAnyH_take (i := 35) (oi := ?oi_76) (v := ?_) ?hi_76 (by kernel_rfl) ?hf_76 (by kernel_rfl) ?hQ_76 ?hy_76 (by assumption) ?_
               case hi_76 => simp only [List.getElem?_toArray, List.getElem?_cons_zero, List.getElem?_cons_succ]; rfl
               case hf_76 => kernel_rfl
               case hQ_76 => exact fun _ _ _ h => h
               case hy_76 =>
                 refine Or.inl ⟨by rfl, ?_⟩
                 intro W hSw
                 go_simp
                 try with_reducible rfl
               try simp only [Act.put, List.setIfInBounds_toArray, List.set_cons_zero, List.set_cons_succ]
               refine wpAnyH_take (i := 36) (oi := ?oi_77) (v := ?_) ?hi_77 (by kernel_rfl) ?hf_77 (by kernel_rfl) ?hQ_77 ?hy_77 (by assumption) ?_
               case hi_77 => simp only [List.getElem?_toArray, List.getElem?_cons_zero, List.getElem?_cons_succ]; rfl
               case hf_77 => kernel_rfl
               case hQ_77 => exact fun _ _ _ h => h
               case hy_77 =>
                 refine Or.inl ⟨by rfl, ?_⟩
                 intro W hSw
                 go_simp
                 try with_reducible rfl
               try simp only [Act.put, List.setIfInBounds_toArray, List.set_cons_zero, List.set_cons_succ]
               refine wpAnyH_ready (rs := [37]) (by kernel_rfl) (by simp) ?_
               refine AllReadyH.cons (o := ?oi_78) ?hi_78 (fun K hK => ?_) AllReadyH.nil
               case hi_78 => simp only [List.getElem?_toArray, List.getElem?_cons_zero, List.getElem?_cons_succ]; rfl
               go_simp
               (go_at_call 37
                with_reducible refine (HW.out _ (HT.out.below (HB3.out.trans (HBN.out.mono HB3.out.size)) HT.out.size)).mono ?_
                rintro e wF ⟨rfl, hbF⟩
                have HBF : Hid (Below w3.heap.size w3 wF) := Lib.hid (HBN.out.trans (hbF.mono HBN.out.size))
                clear hbF)
               refine hK.out _ _ HBF.out (fun hHeld => ?_)
               clear hK K
               try simp only [Act.put, List.setIfInBounds_toArray, List.set_cons_zero, List.set_cons_succ]
               refine wpAnyH_take (i := 38) (oi := ?oi_79) (v := ?_) ?hi_79 (by kernel_rfl) ?hf_79 (by kernel_rfl) ?hQ_79 ?hy_79 (by assumption) ?_
               case hi_79 => simp only [List.getElem?_toArray, List.getElem?_cons_zero, List.getElem?_cons_succ]; rfl
               case hf_79 => kernel_rfl
               case hQ_79 => exact fun _ _ _ h => h
               case hy_79 =>
                 refine Or.inl ⟨by rfl, ?_⟩
                 intro W hSw
                 go_simp
                 try with_reducible rfl
               try simp only [Act.put, List.setIfInBounds_toArray, List.set_cons_zero, List.set_cons_succ]
               refine wpAnyH_take (i := 39) (oi := ?oi_80) (v := ?_) ?hi_80 (by kernel_rfl) ?hf_80 (by kernel_rfl) ?hQ_80 ?hy_80 (by assumption) ?_
               case hi_80 => simp only [List.getElem?_toArray, List.getElem?_cons_zero, List.getElem?_cons_succ]; rfl
               case hf_80 => kernel_rfl
               case hQ_80 => exact fun _ _ _ h => h
               case hy_80 =>
                 refine Or.inl ⟨by rfl, ?_⟩
                 intro W hSw
                 go_simp
                 try with_reducible rfl
               try simp only [Act.put, List.setIfInBounds_toArray, List.set_cons_zero, List.set_cons_succ]
               refine wpAnyH_done (by kernel_rfl) ?_ _
               clear hHeld
               go_wp2
               go_ret
               exact ⟨rfl, HB3.out.trans (HBF.out.mono HB3.out.size)⟩)
        · have hfn : f < 0 := by omega
          clear hf
          first
          | exact absurd he (by decide)
          | (skip
             go_wp2_with (first
               | (go_at_call 42; (with_reducible refine (HL.out _ HTr.out).mono ?_); rintro e w3 ⟨v, xs, rfl, ho, hx, hb⟩
                  obtain ⟨Al, cl, rfl⟩ := own_slice ho
                  have HOL := Lib.hid ho
                  have HXL := Lib.hid hx
                  have HB3 : Hid (Below w.heap.size w w3) := Lib.hid (HB1.out.trans (hb.mono HB1.out.size))
                  have hx3 := (hb.cell (p := ⟨wa.heap.size, 0, none⟩) (Nat.lt_of_lt_of_le HLT.out.2 HB2.out.size)).trans hx0
                  clear ho hx hb hx0))
             obtain ⟨gl, rfl, xs0, xs1⟩ := list_at HOL.out HXL.out
             obtain ⟨⟨r, jj⟩, HR⟩ : ∃ q, Hid (OPS[m]? = some q) := ⟨_, Lib.hid (List.getElem?_eq_getElem (by rw [OPS_length]; exact hm111))⟩
             have HB0 : Hid (Below w3.heap.size w3 w3.drew) := Lib.hid (below_drewN (Below.refl _ _) 1)
             have HCL2 : Hid (∀ W, Below w3.heap.size w3 W → W.cell? ⟨gl, m * 5 + 1, none⟩ = some (.string (nmS r jj)) ∧ W.cell? ⟨gl, m * 5, none⟩ = some (.int .i64 ((r.first : Int) + (jj : Int)))) := Lib.hid (fun W hb => by
               obtain ⟨h1, h2⟩ := xs0 m r jj HR.out
               exact ⟨(hb.cell (p := ⟨gl, m * 5 + 1, none⟩) (lt_of_cell h1)).trans h1, (hb.cell (p := ⟨gl, m * 5, none⟩) (lt_of_cell h2)).trans h2⟩)
             have HOP : Hid (OpAt ((r.first : Int) + (jj : Int)) r jj) := Lib.hid ⟨List.mem_of_getElem? HR.out, rfl⟩
             have HNm : Hid (∀ W, Calls Tryd.prog 32 #[.int .i64 ((r.first : Int) + (jj : Int))] W fun e w' => e = .returned (.string (nmS r jj)) ∧ Below W.heap.size W w') := Lib.hid (fun W => by
               rw [name_of HOP.out]
               have hg := good_in (mem_OPS.1 HOP.out.1).1
               have h1 := hg.first
               have h2 := hg.words
               have h3 := (mem_OPS.1 HOP.out.1).2
               exact HN.out _ W (wf_small9 _ (by omega) (by omega)))
             have HD : Hid (decide ((m : Int) < 111) = true) := Lib.hid (by simp; omega)
             have HI1 : Hid ((0 : Int) ≤ (m : Int)) := Lib.hid (by omega)
             have HI2 : Hid ((m : Int) < 111) := Lib.hid (by omega)
             clear xs1
             by_cases hm0 : m = 0
             · have HM0 : Hid (((m : Int) == 0) = true) := Lib.hid (by simp; exact hm0)
               clear hm0
               clear xs0
               refine wp_region_held_drew (S := (fun W => Below w3.heap.size w3 W)) (by kernel_rfl) HB0.out (fun hHeld => ?_)
               refine wpAnyH_take (i := 0) (oi := ?oi_1081) (v := ?_) ?hi_1081 (by kernel_rfl) ?hf_1081 (by kernel_rfl) ?hQ_1081 ?hy_1081 (by assumption) ?_
               case hi_1081 => simp only [List.getElem?_toArray, List.getElem?_cons_zero, List.getElem?_cons_succ]; rfl
               case hf_1081 => kernel_rfl
               case hQ_1081 => exact fun _ _ _ h => h
               case hy_1081 =>
                 refine Or.inl ⟨by rfl, ?_⟩
                 intro W hSw
                 go_simp
                 try with_reducible rfl
               try simp only [Act.put, List.setIfInBounds_toArray, List.set_cons_zero, List.set_cons_succ]
               refine wpAnyH_take (i := 1) (oi := ?oi_1082) (v := ?_) ?hi_1082 (by kernel_rfl) ?hf_1082 (by kernel_rfl) ?hQ_1082 ?hy_1082 (by assumption) ?_
               case hi_1082 => simp only [List.getElem?_toArray, List.getElem?_cons_zero, List.getElem?_cons_succ]; rfl
               case hf_1082 => kernel_rfl
               case hQ_1082 => exact fun _ _ _ h => h
               case hy_1082 =>
                 refine Or.inl ⟨by rfl, ?_⟩
                 intro W hSw
                 go_simp
                 try with_reducible rfl
               try simp only [Act.put, List.setIfInBounds_toArray, List.set_cons_zero, List.set_cons_succ]
               refine wpAnyH_take (i := 2) (oi := ?oi_1083) (v := ?_) ?hi_1083 (by kernel_rfl) ?hf_1083 (by kernel_rfl) ?hQ_1083 ?hy_1083 (by assumption) ?_
               case hi_1083 => simp only [List.getElem?_toArray, List.getElem?_cons_zero, List.getElem?_cons_succ]; rfl
               case hf_1083 => kernel_rfl
               case hQ_1083 => exact fun _ _ _ h => h
               case hy_1083 =>
                 refine Or.inl ⟨by rfl, ?_⟩
                 intro W hSw
                 go_simp
                 try with_reducible rfl
               try simp only [Act.put, List.setIfInBounds_toArray, List.set_cons_zero, List.set_cons_succ]
               refine wpAnyH_take (i := 3) (oi := ?oi_1084) (v := ?_) ?hi_1084 (by kernel_rfl) ?hf_1084 (by kernel_rfl) ?hQ_1084 ?hy_1084 (by assumption) ?_
               case hi_1084 => simp only [List.getElem?_toArray, List.getElem?_cons_zero, List.getElem?_cons_succ]; rfl
               case hf_1084 => kernel_rfl
               case hQ_1084 => exact fun _ _ _ h => h
               case hy_1084 =>
                 refine Or.inl ⟨by rfl, ?_⟩
                 intro W hSw
                 have hd := HD.out
                 go_simp
                 try with_reducible rfl
               try simp only [Act.put, List.setIfInBounds_toArray, List.set_cons_zero, List.set_cons_succ]
               refine wpAnyH_take (i := 4) (oi := ?oi_1085) (v := ?_) ?hi_1085 (by kernel_rfl) ?hf_1085 (by kernel_rfl) ?hQ_1085 ?hy_1085 (by assumption) ?_
               case hi_1085 => simp only [List.getElem?_toArray, List.getElem?_cons_zero, List.getElem?_cons_succ]; rfl
               case hf_1085 => kernel_rfl
               case hQ_1085 => exact fun _ _ _ h => h
               case hy_1085 =>
                 refine Or.inl ⟨by rfl, ?_⟩
                 intro W hSw
                 go_simp
                 try with_reducible rfl
               try simp only [Act.put, List.setIfInBounds_toArray, List.set_cons_zero, List.set_cons_succ]
               refine wpAnyH_take (i := 5) (oi := ?oi_1086) (v := ?_) ?hi_1086 (by kernel_rfl) ?hf_1086 (by kernel_rfl) ?hQ_1086 ?hy_1086 (by assumption) ?_
               case hi_1086 => simp only [List.getElem?_toArray, List.getElem?_cons_zero, List.getElem?_cons_succ]; rfl
               case hf_1086 => kernel_rfl
               case hQ_1086 => exact fun _ _ _ h => h
               case hy_1086 =>
                 refine Or.inl ⟨by rfl, ?_⟩
                 intro W hSw
                 go_simp
                 try with_reducible rfl
               try simp only [Act.put, List.setIfInBounds_toArray, List.set_cons_zero, List.set_cons_succ]
               refine wpAnyH_take (i := 6) (oi := ?oi_1087) (v := ?_) ?hi_1087 (by kernel_rfl) ?hf_1087 (by kernel_rfl) ?hQ_1087 ?hy_1087 (by assumption) ?_
               case hi_1087 => simp only [List.getElem?_toArray, List.getElem?_cons_zero, List.getElem?_cons_succ]; rfl
               case hf_1087 => kernel_rfl
               case hQ_1087 => exact fun _ _ _ h => h
               case hy_1087 =>
                 refine Or.inl ⟨by rfl, ?_⟩
                 intro W hSw
                 go_simp
                 try with_reducible rfl
               try simp only [Act.put, List.setIfInBounds_toArray, List.set_cons_zero, List.set_cons_succ]
               refine wpAnyH_take (i := 7) (oi := ?oi_1088) (v := ?_) ?hi_1088 (by kernel_rfl) ?hf_1088 (by kernel_rfl) ?hQ_1088 ?hy_1088 (by assumption) ?_
               case hi_1088 => simp only [List.getElem?_toArray, List.getElem?_cons_zero, List.getElem?_cons_succ]; rfl
               case hf_1088 => kernel_rfl
               case hQ_1088 => exact fun _ _ _ h => h
               case hy_1088 =>
                 refine Or.inl ⟨by rfl, ?_⟩
                 intro W hSw
                 have hi1 := HI1.out
                 have hi2 := HI2.out
                 go_simp
                 try with_reducible rfl
               try simp only [Act.put, List.setIfInBounds_toArray, List.set_cons_zero, List.set_cons_succ]
               refine wpAnyH_take (i := 8) (oi := ?oi_1089) (v := ?_) ?hi_1089 (by kernel_rfl) ?hf_1089 (by kernel_rfl) ?hQ_1089 ?hy_1089 (by assumption) ?_
               case hi_1089 => simp only [List.getElem?_toArray, List.getElem?_cons_zero, List.getElem?_cons_succ]; rfl
               case hf_1089 => kernel_rfl
               case hQ_1089 => exact fun _ _ _ h => h
               case hy_1089 =>
                 refine Or.inl ⟨by rfl, ?_⟩
                 intro W hSw
                 go_simp
                 try with_reducible rfl
               try simp only [Act.put, List.setIfInBounds_toArray, List.set_cons_zero, List.set_cons_succ]
               refine wpAnyH_take (i := 9) (oi := ?oi_1090) (v := ?_) ?hi_1090 (by kernel_rfl) ?hf_1090 (by kernel_rfl) ?hQ_1090 ?hy_1090 (by assumption) ?_
               case hi_1090 => simp only [List.getElem?_toArray, List.getElem?_cons_zero, List.getElem?_cons_succ]; rfl
               case hf_1090 => kernel_rfl
               case hQ_1090 => exact fun _ _ _ h => h
               case hy_1090 =>
                 refine Or.inl ⟨by rfl, ?_⟩
                 intro W hSw
                 have xn := (HCL2.out W hSw).1
                 go_simp
                 try with_reducible rfl
               try simp only [Act.put, List.setIfInBounds_toArray, List.set_cons_zero, List.set_cons_succ]
               refine wpAnyH_take (i := 10) (oi := ?oi_1091) (v := ?_) ?hi_1091 (by kernel_rfl) ?hf_1091 (by kernel_rfl) ?hQ_1091 ?hy_1091 (by assumption) ?_
               case hi_1091 => simp only [List.getElem?_toArray, List.getElem?_cons_zero, List.getElem?_cons_succ]; rfl
               case hf_1091 => kernel_rfl
               case hQ_1091 => exact fun _ _ _ h => h
               case hy_1091 =>
                 refine Or.inl ⟨by rfl, ?_⟩
                 intro W hSw
                 go_simp
                 try with_reducible rfl
               try simp only [Act.put, List.setIfInBounds_toArray, List.set_cons_zero, List.set_cons_succ]
               refine wpAnyH_take (i := 11) (oi := ?oi_1092) (v := ?_) ?hi_1092 (by kernel_rfl) ?hf_1092 (by kernel_rfl) ?hQ_1092 ?hy_1092 (by assumption) ?_
               case hi_1092 => simp only [List.getElem?_toArray, List.getElem?_cons_zero, List.getElem?_cons_succ]; rfl
               case hf_1092 => kernel_rfl
               case hQ_1092 => exact fun _ _ _ h => h
               case hy_1092 =>
                 refine Or.inl ⟨by rfl, ?_⟩
                 intro W hSw
                 go_simp
                 try with_reducible rfl
               try simp only [Act.put, List.setIfInBounds_toArray, List.set_cons_zero, List.set_cons_succ]
               refine wpAnyH_take (i := 12) (oi := ?oi_1093) (v := ?_) ?hi_1093 (by kernel_rfl) ?hf_1093 (by kernel_rfl) ?hQ_1093 ?hy_1093 (by assumption) ?_
               case hi_1093 => simp only [List.getElem?_toArray, List.getElem?_cons_zero, List.getElem?_cons_succ]; rfl
               case hf_1093 => kernel_rfl
               case hQ_1093 => exact fun _ _ _ h => h
               case hy_1093 =>
                 refine Or.inl ⟨by rfl, ?_⟩
                 intro W hSw
                 have hi1 := HI1.out
                 have hi2 := HI2.out
                 go_simp
                 try with_reducible rfl
               try simp only [Act.put, List.setIfInBounds_toArray, List.set_cons_zero, List.set_cons_succ]
               refine wpAnyH_take (i := 13) (oi := ?oi_1094) (v := ?_) ?hi_1094 (by kernel_rfl) ?hf_1094 (by kernel_rfl) ?hQ_1094 ?hy_1094 (by assumption) ?_
               case hi_1094 => simp only [List.getElem?_toArray, List.getElem?_cons_zero, List.getElem?_cons_succ]; rfl
               case hf_1094 => kernel_rfl
               case hQ_1094 => exact fun _ _ _ h => h
               case hy_1094 =>
                 refine Or.inl ⟨by rfl, ?_⟩
                 intro W hSw
                 go_simp
                 try with_reducible rfl
               try simp only [Act.put, List.setIfInBounds_toArray, List.set_cons_zero, List.set_cons_succ]
               refine wpAnyH_take (i := 14) (oi := ?oi_1095) (v := ?_) ?hi_1095 (by kernel_rfl) ?hf_1095 (by kernel_rfl) ?hQ_1095 ?hy_1095 (by assumption) ?_
               case hi_1095 => simp only [List.getElem?_toArray, List.getElem?_cons_zero, List.getElem?_cons_succ]; rfl
               case hf_1095 => kernel_rfl
               case hQ_1095 => exact fun _ _ _ h => h
               case hy_1095 =>
                 refine Or.inl ⟨by rfl, ?_⟩
                 intro W hSw
                 have xc := (HCL2.out W hSw).2
                 go_simp
                 try with_reducible rfl
               try simp only [Act.put, List.setIfInBounds_toArray, List.set_cons_zero, List.set_cons_succ]
               refine wpAnyH_ready (rs := [15]) (by kernel_rfl) (by simp) ?_
               refine AllReadyH.cons (o := ?oi_1096) ?hi_1096 (fun K hK => ?_) AllReadyH.nil
               case hi_1096 => simp only [List.getElem?_toArray, List.getElem?_cons_zero, List.getElem?_cons_succ]; rfl
               go_simp
               (go_at_call 32
                with_reducible refine (HNm.out _).mono ?_
                rintro e wN ⟨rfl, hbN⟩
                have HBN : Hid (Below w3.heap.size w3 wN) := Lib.hid (HB0.out.trans (hbN.mono HB0.out.size))
                clear hbN)
               refine hK.out _ _ HBN.out (fun hHeld => ?_)
               clear hK K
               try simp only [Act.put, List.setIfInBounds_toArray, List.set_cons_zero, List.set_cons_succ]
               refine wpAnyH_take (i := 16) (oi := ?oi_1097) (v := ?_) ?hi_1097 (by kernel_rfl) ?hf_1097 (by kernel_rfl) ?hQ_1097 ?hy_1097 (by assumption) ?_
               case hi_1097 => simp only [List.getElem?_toArray, List.getElem?_cons_zero, List.getElem?_cons_succ]; rfl
               case hf_1097 => kernel_rfl
               case hQ_1097 => exact fun _ _ _ h => h
               case hy_1097 =>
                 refine Or.inl ⟨by rfl, ?_⟩
                 intro W hSw
                 go_simp
                 try with_reducible rfl
               try simp only [Act.put, List.setIfInBounds_toArray, List.set_cons_zero, List.set_cons_succ]
               refine wpAnyH_take (i := 17) (oi := ?oi_1098) (v := ?_) ?hi_1098 (by kernel_rfl) ?hf_1098 (by kernel_rfl) ?hQ_1098 ?hy_1098 (by assumption) ?_
               case hi_1098 => simp only [List.getElem?_toArray, List.getElem?_cons_zero, List.getElem?_cons_succ]; rfl
               case hf_1098 => kernel_rfl
               case hQ_1098 => exact fun _ _ _ h => h
               case hy_1098 =>
                 refine Or.inl ⟨by rfl, ?_⟩
                 intro W hSw
                 go_simp
                 try with_reducible rfl
               try simp only [Act.put, List.setIfInBounds_toArray, List.set_cons_zero, List.set_cons_succ]
               refine wpAnyH_take (i := 18) (oi := ?oi_1099) (v := ?_) ?hi_1099 (by kernel_rfl) ?hf_1099 (by kernel_rfl) ?hQ_1099 ?hy_1099 (by assumption) ?_
               case hi_1099 => simp only [List.getElem?_toArray, List.getElem?_cons_zero, List.getElem?_cons_succ]; rfl
               case hf_1099 => kernel_rfl
               case hQ_1099 => exact fun _ _ _ h => h
               case hy_1099 =>
                 refine Or.inl ⟨by rfl, ?_⟩
                 intro W hSw
                 go_simp
                 try with_reducible rfl
               try simp only [Act.put, List.setIfInBounds_toArray, List.set_cons_zero, List.set_cons_succ]
               refine wpAnyH_take (i := 19) (oi := ?oi_1100) (v := ?_) ?hi_1100 (by kernel_rfl) ?hf_1100 (by kernel_rfl) ?hQ_1100 ?hy_1100 (by assumption) ?_
               case hi_1100 => simp only [List.getElem?_toArray, List.getElem?_cons_zero, List.getElem?_cons_succ]; rfl
               case hf_1100 => kernel_rfl
               case hQ_1100 => exact fun _ _ _ h => h
               case hy_1100 =>
                 refine Or.inl ⟨by rfl, ?_⟩
                 intro W hSw
                 go_simp
                 try with_reducible rfl
               try simp only [Act.put, List.setIfInBounds_toArray, List.set_cons_zero, List.set_cons_succ]
               refine wpAnyH_take (i := 20) (oi := ?oi_1101) (v := ?_) ?hi_1101 (by kernel_rfl) ?hf_1101 (by kernel_rfl) ?hQ_1101 ?hy_1101 (by assumption) ?_
               case hi_1101 => simp only [List.getElem?_toArray, List.getElem?_cons_zero, List.getElem?_cons_succ]; rfl
               case hf_1101 => kernel_rfl
               case hQ_1101 => exact fun _ _ _ h => h
               case hy_1101 =>
                 refine Or.inl ⟨by rfl, ?_⟩
                 intro W hSw
                 have hm0 := HM0.out
                 go_simp
                 try with_reducible rfl
               try simp only [Act.put, List.setIfInBounds_toArray, List.set_cons_zero, List.set_cons_succ]
               refine wpAnyH_take (i := 21) (oi := ?oi_1102) (v := ?_) ?hi_1102 (by kernel_rfl) ?hf_1102 (by kernel_rfl) ?hQ_1102 ?hy_1102 (by assumption) ?_
               case hi_1102 => simp only [List.getElem?_toArray, List.getElem?_cons_zero, List.getElem?_cons_succ]; rfl
               case hf_1102 => kernel_rfl
               case hQ_1102 => exact fun _ _ _ h => h
               case hy_1102 =>
                 refine Or.inl ⟨by rfl, ?_⟩
                 intro W hSw
                 go_simp
                 try with_reducible rfl
               try simp only [Act.put, List.setIfInBounds_toArray, List.set_cons_zero, List.set_cons_succ]
               refine wpAnyH_take (i := 22) (oi := ?oi_1103) (v := undef) ?hi_1103 (by kernel_rfl) ?hf_1103 (by kernel_rfl) ?hQ_1103 ?hy_1103 (by assumption) ?_
               case hi_1103 => simp only [List.getElem?_toArray, List.getElem?_cons_zero, List.getElem?_cons_succ]; rfl
               case hf_1103 => kernel_rfl
               case hQ_1103 => exact fun _ _ _ h => h
               case hy_1103 => exact Or.inr ⟨by rfl, rfl⟩
               try simp only [Act.put, List.setIfInBounds_toArray, List.set_cons_zero, List.set_cons_succ]
               refine wpAnyH_take (i := 23) (oi := ?oi_1104) (v := undef) ?hi_1104 (by kernel_rfl) ?hf_1104 (by kernel_rfl) ?hQ_1104 ?hy_1104 (by assumption) ?_
               case hi_1104 => simp only [List.getElem?_toArray, List.getElem?_cons_zero, List.getElem?_cons_succ]; rfl
               case hf_1104 => kernel_rfl
               case hQ_1104 => exact fun _ _ _ h => h
               case hy_1104 => exact Or.inr ⟨by rfl, rfl⟩
               try simp only [Act.put, List.setIfInBounds_toArray, List.set_cons_zero, List.set_cons_succ]
               refine wpAnyH_take (i := 24) (oi := ?oi_1105) (v := undef) ?hi_1105 (by kernel_rfl) ?hf_1105 (by kernel_rfl) ?hQ_1105 ?hy_1105 (by assumption) ?_
               case hi_1105 => simp only [List.getElem?_toArray, List.getElem?_cons_zero, List.getElem?_cons_succ]; rfl
               case hf_1105 => kernel_rfl
               case hQ_1105 => exact fun _ _ _ h => h
               case hy_1105 => exact Or.inr ⟨by rfl, rfl⟩
               try simp only [Act.put, List.setIfInBounds_toArray, List.set_cons_zero, List.set_cons_succ]
               refine wpAnyH_take (i := 25) (oi := ?oi_1106) (v := undef) ?hi_1106 (by kernel_rfl) ?hf_1106 (by kernel_rfl) ?hQ_1106 ?hy_1106 (by assumption) ?_
               case hi_1106 => simp only [List.getElem?_toArray, List.getElem?_cons_zero, List.getElem?_cons_succ]; rfl
               case hf_1106 => kernel_rfl
               case hQ_1106 => exact fun _ _ _ h => h
               case hy_1106 => exact Or.inr ⟨by rfl, rfl⟩
               try simp only [Act.put, List.setIfInBounds_toArray, List.set_cons_zero, List.set_cons_succ]
               refine wpAnyH_take (i := 26) (oi := ?oi_1107) (v := undef) ?hi_1107 (by kernel_rfl) ?hf_1107 (by kernel_rfl) ?hQ_1107 ?hy_1107 (by assumption) ?_
               case hi_1107 => simp only [List.getElem?_toArray, List.getElem?_cons_zero, List.getElem?_cons_succ]; rfl
               case hf_1107 => kernel_rfl
               case hQ_1107 => exact fun _ _ _ h => h
               case hy_1107 => exact Or.inr ⟨by rfl, rfl⟩
               try simp only [Act.put, List.setIfInBounds_toArray, List.set_cons_zero, List.set_cons_succ]
               refine wpAnyH_take (i := 27) (oi := ?oi_1108) (v := undef) ?hi_1108 (by kernel_rfl) ?hf_1108 (by kernel_rfl) ?hQ_1108 ?hy_1108 (by assumption) ?_
               case hi_1108 => simp only [List.getElem?_toArray, List.getElem?_cons_zero, List.getElem?_cons_succ]; rfl
               case hf_1108 => kernel_rfl
               case hQ_1108 => exact fun _ _ _ h => h
               case hy_1108 => exact Or.inr ⟨by rfl, rfl⟩
               try simp only [Act.put, List.setIfInBounds_toArray, List.set_cons_zero, List.set_cons_succ]
               refine wpAnyH_take (i := 28) (oi := ?oi_1109) (v := undef) ?hi_1109 (by kernel_rfl) ?hf_1109 (by kernel_rfl) ?hQ_1109 ?hy_1109 (by assumption) ?_
               case hi_1109 => simp only [List.getElem?_toArray, List.getElem?_cons_zero, List.getElem?_cons_succ]; rfl
               case hf_1109 => kernel_rfl
               case hQ_1109 => exact fun _ _ _ h => h
               case hy_1109 => exact Or.inr ⟨by rfl, rfl⟩
               try simp only [Act.put, List.setIfInBounds_toArray, List.set_cons_zero, List.set_cons_succ]
               refine wpAnyH_take (i := 29) (oi := ?oi_1110) (v := undef) ?hi_1110 (by kernel_rfl) ?hf_1110 (by kernel_rfl) ?hQ_1110 ?hy_1110 (by assumption) ?_
               case hi_1110 => simp only [List.getElem?_toArray, List.getElem?_cons_zero, List.getElem?_cons_succ]; rfl
               case hf_1110 => kernel_rfl
               case hQ_1110 => exact fun _ _ _ h => h
               case hy_1110 => exact Or.inr ⟨by rfl, rfl⟩
               try simp only [Act.put, List.setIfInBounds_toArray, List.set_cons_zero, List.set_cons_succ]
               refine wpAnyH_take (i := 30) (oi := ?oi_1111) (v := undef) ?hi_1111 (by kernel_rfl) ?hf_1111 (by kernel_rfl) ?hQ_1111 ?hy_1111 (by assumption) ?_
               case hi_1111 => simp only [List.getElem?_toArray, List.getElem?_cons_zero, List.getElem?_cons_succ]; rfl
               case hf_1111 => kernel_rfl
               case hQ_1111 => exact fun _ _ _ h => h
               case hy_1111 => exact Or.inr ⟨by rfl, rfl⟩
               try simp only [Act.put, List.setIfInBounds_toArray, List.set_cons_zero, List.set_cons_succ]
               refine wpAnyH_take (i := 31) (oi := ?oi_1112) (v := undef) ?hi_1112 (by kernel_rfl) ?hf_1112 (by kernel_rfl) ?hQ_1112 ?hy_1112 (by assumption) ?_
               case hi_1112 => simp only [List.getElem?_toArray, List.getElem?_cons_zero, List.getElem?_cons_succ]; rfl
               case hf_1112 => kernel_rfl
               case hQ_1112 => exact fun _ _ _ h => h
               case hy_1112 => exact Or.inr ⟨by rfl, rfl⟩
               try simp only [Act.put, List.setIfInBounds_toArray, List.set_cons_zero, List.set_cons_succ]
               refine wpAnyH_take (i := 32) (oi := ?oi_1113) (v := undef) ?hi_1113 (by kernel_rfl) ?hf_1113 (by kernel_rfl) ?hQ_1113 ?hy_1113 (by assumption) ?_
               case hi_1113 => simp only [List.getElem?_toArray, List.getElem?_cons_zero, List.getElem?_cons_succ]; rfl
               case hf_1113 => kernel_rfl
               case hQ_1113 => exact fun _ _ _ h => h
               case hy_1113 => exact Or.inr ⟨by rfl, rfl⟩
               try simp only [Act.put, List.setIfInBounds_toArray, List.set_cons_zero, List.set_cons_succ]
               refine wpAnyH_take (i := 33) (oi := ?oi_1114) (v := undef) ?hi_1114 (by kernel_rfl) ?hf_1114 (by kernel_rfl) ?hQ_1114 ?hy_1114 (by assumption) ?_
               case hi_1114 => simp only [List.getElem?_toArray, List.getElem?_cons_zero, List.getElem?_cons_succ]; rfl
               case hf_1114 => kernel_rfl
               case hQ_1114 => exact fun _ _ _ h => h
               case hy_1114 => exact Or.inr ⟨by rfl, rfl⟩
               try simp only [Act.put, List.setIfInBounds_toArray, List.set_cons_zero, List.set_cons_succ]
               refine wpAnyH_take (i := 34) (oi := ?oi_1115) (v := ?_) ?hi_1115 (by kernel_rfl) ?hf_1115 (by kernel_rfl) ?hQ_1115 ?hy_1115 (by assumption) ?_
               case hi_1115 => simp only [List.getElem?_toArray, List.getElem?_cons_zero, List.getElem?_cons_succ]; rfl
               case hf_1115 => kernel_rfl
               case hQ_1115 => exact fun _ _ _ h => h
               case hy_1115 =>
                 refine Or.inl ⟨by rfl, ?_⟩
                 intro W hSw
                 go_simp
                 try with_reducible rfl
               try simp only [Act.put, List.setIfInBounds_toArray, List.set_cons_zero, List.set_cons_succ]
               refine wpAnyH_take (i := 35) (oi := ?oi_1116) (v := ?_) ?hi_1116 (by kernel_rfl) ?hf_1116 (by kernel_rfl) ?hQ_1116 ?hy_1116 (by assumption) ?_
               case hi_1116 => simp only [List.getElem?_toArray, List.getElem?_cons_zero, List.getElem?_cons_succ]; rfl
               case hf_1116 => kernel_rfl
               case hQ_1116 => exact fun _ _ _ h => h
               case hy_1116 =>
                 refine Or.inl ⟨by rfl, ?_⟩
                 intro W hSw
                 go_simp
                 try with_reducible rfl
               try simp only [Act.put, List.setIfInBounds_toArray, List.set_cons_zero, List.set_cons_succ]
               refine wpAnyH_take (i := 36) (oi := ?oi_1117) (v := ?_) ?hi_1117 (by kernel_rfl) ?hf_1117 (by kernel_rfl) ?hQ_1117 ?hy_1117 (by assumption) ?_
               case hi_1117 => simp only [List.getElem?_toArray, List.getElem?_cons_zero, List.getElem?_cons_succ]; rfl
               case hf_1117 => kernel_rfl
               case hQ_1117 => exact fun _ _ _ h => h
               case hy_1117 =>
                 refine Or.inl ⟨by rfl, ?_⟩
                 intro W hSw
                 go_simp
                 try with_reducible rfl
               try simp only [Act.put, List.setIfInBounds_toArray, List.set_cons_zero, List.set_cons_succ]
               refine wpAnyH_ready (rs := [37]) (by kernel_rfl) (by simp) ?_
               refine AllReadyH.cons (o := ?oi_1118) ?hi_1118 (fun K hK => ?_) AllReadyH.nil
               case hi_1118 => simp only [List.getElem?_toArray, List.getElem?_cons_zero, List.getElem?_cons_succ]; rfl
               go_simp
               (go_at_call 37
                with_reducible refine (HW.out _ (HT.out.below (HB3.out.trans (HBN.out.mono HB3.out.size)) HT.out.size)).mono ?_
                rintro e wF ⟨rfl, hbF⟩
                have HBF : Hid (Below w3.heap.size w3 wF) := Lib.hid (HBN.out.trans (hbF.mono HBN.out.size))
                clear hbF)
               refine hK.out _ _ HBF.out (fun hHeld => ?_)
               clear hK K
               try simp only [Act.put, List.setIfInBounds_toArray, List.set_cons_zero, List.set_cons_succ]
               refine wpAnyH_take (i := 38) (oi := ?oi_1119) (v := ?_) ?hi_1119 (by kernel_rfl) ?hf_1119 (by kernel_rfl) ?hQ_1119 ?hy_1119 (by assumption) ?_
               case hi_1119 => simp only [List.getElem?_toArray, List.getElem?_cons_zero, List.getElem?_cons_succ]; rfl
               case hf_1119 => kernel_rfl
               case hQ_1119 => exact fun _ _ _ h => h
               case hy_1119 =>
                 refine Or.inl ⟨by rfl, ?_⟩
                 intro W hSw
                 go_simp
                 try with_reducible rfl
               try simp only [Act.put, List.setIfInBounds_toArray, List.set_cons_zero, List.set_cons_succ]
               refine wpAnyH_take (i := 39) (oi := ?oi_1120) (v := ?_) ?hi_1120 (by kernel_rfl) ?hf_1120 (by kernel_rfl) ?hQ_1120 ?hy_1120 (by assumption) ?_
               case hi_1120 => simp only [List.getElem?_toArray, List.getElem?_cons_zero, List.getElem?_cons_succ]; rfl
               case hf_1120 => kernel_rfl
               case hQ_1120 => exact fun _ _ _ h => h
               case hy_1120 =>
                 refine Or.inl ⟨by rfl, ?_⟩
                 intro W hSw
                 go_simp
                 try with_reducible rfl
               try simp only [Act.put, List.setIfInBounds_toArray, List.set_cons_zero, List.set_cons_succ]
               refine wpAnyH_done (by kernel_rfl) ?_ _
               clear hHeld
               go_wp2
               go_ret
               exact ⟨rfl, HB3.out.trans (HBF.out.mono HB3.out.size)⟩
             · obtain ⟨pp, hpp⟩ : ∃ pp, m = pp + 1 := ⟨m - 1, by omega⟩
               have HM0 : Hid (((m : Int) == 0) = false) := Lib.hid (by simp; exact hm0)
               have HW1 : Hid (IntKind.i64.wrap ((m : Int) - 1) = (pp : Int)) := Lib.hid (by rw [IntKind.wrap_i64]; omega)
               have HI3 : Hid ((0 : Int) ≤ (pp : Int)) := Lib.hid (by omega)
               have HI4 : Hid ((pp : Int) < 111) := Lib.hid (by omega)
               obtain ⟨⟨r2, j2⟩, HR2⟩ : ∃ q, Hid (OPS[pp]? = some q) := ⟨_, Lib.hid (List.getElem?_eq_getElem (by rw [OPS_length]; omega))⟩
               have HCL3 : Hid (∀ W, Below w3.heap.size w3 W → W.cell? ⟨gl, pp * 5, none⟩ = some (.int .i64 ((r2.first : Int) + (j2 : Int)))) := Lib.hid (fun W hb => by
                 obtain ⟨_, h2⟩ := xs0 pp r2 j2 HR2.out
                 exact (hb.cell (p := ⟨gl, pp * 5, none⟩) (lt_of_cell h2)).trans h2)
               have HDC : Hid (decide ((r2.first : Int) + (j2 : Int) < (r.first : Int) + (jj : Int)) = true) := Lib.hid (by
                 have h1 := HR.out
                 rw [hpp] at h1
                 have := rises HR2.out h1
                 simp only at this
                 simp; omega)
               clear hm0 hpp
               clear xs0
               refine wp_region_held_drew (S := (fun W => Below w3.heap.size w3 W)) (by kernel_rfl) HB0.out (fun hHeld => ?_)
               refine wpAnyH_take (i := 0) (oi := ?oi_1121) (v := ?_) ?hi_1121 (by kernel_rfl) ?hf_1121 (by kernel_rfl) ?hQ_1121 ?hy_1121 (by assumption) ?_
               case hi_1121 => simp only [List.getElem?_toArray, List.getElem?_cons_zero, List.getElem?_cons_succ]; rfl
               case hf_1121 => kernel_rfl
               case hQ_1121 => exact fun _ _ _ h => h
               case hy_1121 =>
                 refine Or.inl ⟨by rfl, ?_⟩
                 intro W hSw
                 go_simp
                 try with_reducible rfl
               try simp only [Act.put, List.setIfInBounds_toArray, List.set_cons_zero, List.set_cons_succ]
               refine wpAnyH_take (i := 1) (oi := ?oi_1122) (v := ?_) ?hi_1122 (by kernel_rfl) ?hf_1122 (by kernel_rfl) ?hQ_1122 ?hy_1122 (by assumption) ?_
               case hi_1122 => simp only [List.getElem?_toArray, List.getElem?_cons_zero, List.getElem?_cons_succ]; rfl
               case hf_1122 => kernel_rfl
               case hQ_1122 => exact fun _ _ _ h => h
               case hy_1122 =>
                 refine Or.inl ⟨by rfl, ?_⟩
                 intro W hSw
                 go_simp
                 try with_reducible rfl
               try simp only [Act.put, List.setIfInBounds_toArray, List.set_cons_zero, List.set_cons_succ]
               refine wpAnyH_take (i := 2) (oi := ?oi_1123) (v := ?_) ?hi_1123 (by kernel_rfl) ?hf_1123 (by kernel_rfl) ?hQ_1123 ?hy_1123 (by assumption) ?_
               case hi_1123 => simp only [List.getElem?_toArray, List.getElem?_cons_zero, List.getElem?_cons_succ]; rfl
               case hf_1123 => kernel_rfl
               case hQ_1123 => exact fun _ _ _ h => h
               case hy_1123 =>
                 refine Or.inl ⟨by rfl, ?_⟩
                 intro W hSw
                 go_simp
                 try with_reducible rfl
               try simp only [Act.put, List.setIfInBounds_toArray, List.set_cons_zero, List.set_cons_succ]
               refine wpAnyH_take (i := 3) (oi := ?oi_1124) (v := ?_) ?hi_1124 (by kernel_rfl) ?hf_1124 (by kernel_rfl) ?hQ_1124 ?hy_1124 (by assumption) ?_
               case hi_1124 => simp only [List.getElem?_toArray, List.getElem?_cons_zero, List.getElem?_cons_succ]; rfl
               case hf_1124 => kernel_rfl
               case hQ_1124 => exact fun _ _ _ h => h
               case hy_1124 =>
                 refine Or.inl ⟨by rfl, ?_⟩
                 intro W hSw
                 have hd := HD.out
                 go_simp
                 try with_reducible rfl
               try simp only [Act.put, List.setIfInBounds_toArray, List.set_cons_zero, List.set_cons_succ]
               refine wpAnyH_take (i := 4) (oi := ?oi_1125) (v := ?_) ?hi_1125 (by kernel_rfl) ?hf_1125 (by kernel_rfl) ?hQ_1125 ?hy_1125 (by assumption) ?_
               case hi_1125 => simp only [List.getElem?_toArray, List.getElem?_cons_zero, List.getElem?_cons_succ]; rfl
               case hf_1125 => kernel_rfl
               case hQ_1125 => exact fun _ _ _ h => h
               case hy_1125 =>
                 refine Or.inl ⟨by rfl, ?_⟩
                 intro W hSw
                 go_simp
                 try with_reducible rfl
               try simp only [Act.put, List.setIfInBounds_toArray, List.set_cons_zero, List.set_cons_succ]
               refine wpAnyH_take (i := 5) (oi := ?oi_1126) (v := ?_) ?hi_1126 (by kernel_rfl) ?hf_1126 (by kernel_rfl) ?hQ_1126 ?hy_1126 (by assumption) ?_
               case hi_1126 => simp only [List.getElem?_toArray, List.getElem?_cons_zero, List.getElem?_cons_succ]; rfl
               case hf_1126 => kernel_rfl
               case hQ_1126 => exact fun _ _ _ h => h
               case hy_1126 =>
                 refine Or.inl ⟨by rfl, ?_⟩
                 intro W hSw
                 go_simp
                 try with_reducible rfl
               try simp only [Act.put, List.setIfInBounds_toArray, List.set_cons_zero, List.set_cons_succ]
               refine wpAnyH_take (i := 6) (oi := ?oi_1127) (v := ?_) ?hi_1127 (by kernel_rfl) ?hf_1127 (by kernel_rfl) ?hQ_1127 ?hy_1127 (by assumption) ?_
               case hi_1127 => simp only [List.getElem?_toArray, List.getElem?_cons_zero, List.getElem?_cons_succ]; rfl
               case hf_1127 => kernel_rfl
               case hQ_1127 => exact fun _ _ _ h => h
               case hy_1127 =>
                 refine Or.inl ⟨by rfl, ?_⟩
                 intro W hSw
                 go_simp
                 try with_reducible rfl
               try simp only [Act.put, List.setIfInBounds_toArray, List.set_cons_zero, List.set_cons_succ]
               refine wpAnyH_take (i := 7) (oi := ?oi_1128) (v := ?_) ?hi_1128 (by kernel_rfl) ?hf_1128 (by kernel_rfl) ?hQ_1128 ?hy_1128 (by assumption) ?_
               case hi_1128 => simp only [List.getElem?_toArray, List.getElem?_cons_zero, List.getElem?_cons_succ]; rfl
               case hf_1128 => kernel_rfl
               case hQ_1128 => exact fun _ _ _ h => h
               case hy_1128 =>
                 refine Or.inl ⟨by rfl, ?_⟩
                 intro W hSw
                 have hi1 := HI1.out
                 have hi2 := HI2.out
                 go_simp
                 try with_reducible rfl
               try simp only [Act.put, List.setIfInBounds_toArray, List.set_cons_zero, List.set_cons_succ]
               refine wpAnyH_take (i := 8) (oi := ?oi_1129) (v := ?_) ?hi_1129 (by kernel_rfl) ?hf_1129 (by kernel_rfl) ?hQ_1129 ?hy_1129 (by assumption) ?_
               case hi_1129 => simp only [List.getElem?_toArray, List.getElem?_cons_zero, List.getElem?_cons_succ]; rfl
               case hf_1129 => kernel_rfl
               case hQ_1129 => exact fun _ _ _ h => h
               case hy_1129 =>
                 refine Or.inl ⟨by rfl, ?_⟩
                 intro W hSw
                 go_simp
                 try with_reducible rfl
               try simp only [Act.put, List.setIfInBounds_toArray, List.set_cons_zero, List.set_cons_succ]
               refine wpAnyH_take (i := 9) (oi := ?oi_1130) (v := ?_) ?hi_1130 (by kernel_rfl) ?hf_1130 (by kernel_rfl) ?hQ_1130 ?hy_1130 (by assumption) ?_
               case hi_1130 => simp only [List.getElem?_toArray, List.getElem?_cons_zero, List.getElem?_cons_succ]; rfl
               case hf_1130 => kernel_rfl
               case hQ_1130 => exact fun _ _ _ h => h
               case hy_1130 =>
                 refine Or.inl ⟨by rfl, ?_⟩
                 intro W hSw
                 have xn := (HCL2.out W hSw).1
                 go_simp
                 try with_reducible rfl
               try simp only [Act.put, List.setIfInBounds_toArray, List.set_cons_zero, List.set_cons_succ]
               refine wpAnyH_take (i := 10) (oi := ?oi_1131) (v := ?_) ?hi_1131 (by kernel_rfl) ?hf_1131 (by kernel_rfl) ?hQ_1131 ?hy_1131 (by assumption) ?_
               case hi_1131 => simp only [List.getElem?_toArray, List.getElem?_cons_zero, List.getElem?_cons_succ]; rfl
               case hf_1131 => kernel_rfl
               case hQ_1131 => exact fun _ _ _ h => h
               case hy_1131 =>
                 refine Or.inl ⟨by rfl, ?_⟩
                 intro W hSw
                 go_simp
                 try with_reducible rfl
               try simp only [Act.put, List.setIfInBounds_toArray, List.set_cons_zero, List.set_cons_succ]
               refine wpAnyH_take (i := 11) (oi := ?oi_1132) (v := ?_) ?hi_1132 (by kernel_rfl) ?hf_1132 (by kernel_rfl) ?hQ_1132 ?hy_1132 (by assumption) ?_
               case hi_1132 => simp only [List.getElem?_toArray, List.getElem?_cons_zero, List.getElem?_cons_succ]; rfl
               case hf_1132 => kernel_rfl
               case hQ_1132 => exact fun _ _ _ h => h
               case hy_1132 =>
                 refine Or.inl ⟨by rfl, ?_⟩
                 intro W hSw
                 go_simp
                 try with_reducible rfl
               try simp only [Act.put, List.setIfInBounds_toArray, List.set_cons_zero, List.set_cons_succ]
               refine wpAnyH_take (i := 12) (oi := ?oi_1133) (v := ?_) ?hi_1133 (by kernel_rfl) ?hf_1133 (by kernel_rfl) ?hQ_1133 ?hy_1133 (by assumption) ?_
               case hi_1133 => simp only [List.getElem?_toArray, List.getElem?_cons_zero, List.getElem?_cons_succ]; rfl
               case hf_1133 => kernel_rfl
               case hQ_1133 => exact fun _ _ _ h => h
               case hy_1133 =>
                 refine Or.inl ⟨by rfl, ?_⟩
                 intro W hSw
                 have hi1 := HI1.out
                 have hi2 := HI2.out
                 go_simp
                 try with_reducible rfl
               try simp only [Act.put, List.setIfInBounds_toArray, List.set_cons_zero, List.set_cons_succ]
               refine wpAnyH_take (i := 13) (oi := ?oi_1134) (v := ?_) ?hi_1134 (by kernel_rfl) ?hf_1134 (by kernel_rfl) ?hQ_1134 ?hy_1134 (by assumption) ?_
               case hi_1134 => simp only [List.getElem?_toArray, List.getElem?_cons_zero, List.getElem?_cons_succ]; rfl
               case hf_1134 => kernel_rfl
               case hQ_1134 => exact fun _ _ _ h => h
               case hy_1134 =>
                 refine Or.inl ⟨by rfl, ?_⟩
                 intro W hSw
                 go_simp
                 try with_reducible rfl
               try simp only [Act.put, List.setIfInBounds_toArray, List.set_cons_zero, List.set_cons_succ]
               refine wpAnyH_take (i := 14) (oi := ?oi_1135) (v := ?_) ?hi_1135 (by kernel_rfl) ?hf_1135 (by kernel_rfl) ?hQ_1135 ?hy_1135 (by assumption) ?_
               case hi_1135 => simp only [List.getElem?_toArray, List.getElem?_cons_zero, List.getElem?_cons_succ]; rfl
               case hf_1135 => kernel_rfl
               case hQ_1135 => exact fun _ _ _ h => h
               case hy_1135 =>
                 refine Or.inl ⟨by rfl, ?_⟩
                 intro W hSw
                 have xc := (HCL2.out W hSw).2
                 go_simp
                 try with_reducible rfl
               try simp only [Act.put, List.setIfInBounds_toArray, List.set_cons_zero, List.set_cons_succ]
               refine wpAnyH_ready (rs := [15]) (by kernel_rfl) (by simp) ?_
               refine AllReadyH.cons (o := ?oi_1136) ?hi_1136 (fun K hK => ?_) AllReadyH.nil
               case hi_1136 => simp only [List.getElem?_toArray, List.getElem?_cons_zero, List.getElem?_cons_succ]; rfl
               go_simp
               (go_at_call 32
                with_reducible refine (HNm.out _).mono ?_
                rintro e wN ⟨rfl, hbN⟩
                have HBN : Hid (Below w3.heap.size w3 wN) := Lib.hid (HB0.out.trans (hbN.mono HB0.out.size))
                clear hbN)
               refine hK.out _ _ HBN.out (fun hHeld => ?_)
               clear hK K
               try simp only [Act.put, List.setIfInBounds_toArray, List.set_cons_zero, List.set_cons_succ]
               refine wpAnyH_take (i := 16) (oi := ?oi_1137) (v := ?_) ?hi_1137 (by kernel_rfl) ?hf_1137 (by kernel_rfl) ?hQ_1137 ?hy_1137 (by assumption) ?_
               case hi_1137 => simp only [List.getElem?_toArray, List.getElem?_cons_zero, List.getElem?_cons_succ]; rfl
               case hf_1137 => kernel_rfl
               case hQ_1137 => exact fun _ _ _ h => h
               case hy_1137 =>
                 refine Or.inl ⟨by rfl, ?_⟩
                 intro W hSw
                 go_simp
                 try with_reducible rfl
               try simp only [Act.put, List.setIfInBounds_toArray, List.set_cons_zero, List.set_cons_succ]
               refine wpAnyH_take (i := 17) (oi := ?oi_1138) (v := ?_) ?hi_1138 (by kernel_rfl) ?hf_1138 (by kernel_rfl) ?hQ_1138 ?hy_1138 (by assumption) ?_
               case hi_1138 => simp only [List.getElem?_toArray, List.getElem?_cons_zero, List.getElem?_cons_succ]; rfl
               case hf_1138 => kernel_rfl
               case hQ_1138 => exact fun _ _ _ h => h
               case hy_1138 =>
                 refine Or.inl ⟨by rfl, ?_⟩
                 intro W hSw
                 go_simp
                 try with_reducible rfl
               try simp only [Act.put, List.setIfInBounds_toArray, List.set_cons_zero, List.set_cons_succ]
               refine wpAnyH_take (i := 18) (oi := ?oi_1139) (v := ?_) ?hi_1139 (by kernel_rfl) ?hf_1139 (by kernel_rfl) ?hQ_1139 ?hy_1139 (by assumption) ?_
               case hi_1139 => simp only [List.getElem?_toArray, List.getElem?_cons_zero, List.getElem?_cons_succ]; rfl
               case hf_1139 => kernel_rfl
               case hQ_1139 => exact fun _ _ _ h => h
               case hy_1139 =>
                 refine Or.inl ⟨by rfl, ?_⟩
                 intro W hSw
                 go_simp
                 try with_reducible rfl
               try simp only [Act.put, List.setIfInBounds_toArray, List.set_cons_zero, List.set_cons_succ]
               refine wpAnyH_take (i := 19) (oi := ?oi_1140) (v := ?_) ?hi_1140 (by kernel_rfl) ?hf_1140 (by kernel_rfl) ?hQ_1140 ?hy_1140 (by assumption) ?_
               case hi_1140 => simp only [List.getElem?_toArray, List.getElem?_cons_zero, List.getElem?_cons_succ]; rfl
               case hf_1140 => kernel_rfl
               case hQ_1140 => exact fun _ _ _ h => h
               case hy_1140 =>
                 refine Or.inl ⟨by rfl, ?_⟩
                 intro W hSw
                 go_simp
                 try with_reducible rfl
               try simp only [Act.put, List.setIfInBounds_toArray, List.set_cons_zero, List.set_cons_succ]
               refine wpAnyH_take (i := 20) (oi := ?oi_1141) (v := ?_) ?hi_1141 (by kernel_rfl) ?hf_1141 (by kernel_rfl) ?hQ_1141 ?hy_1141 (by assumption) ?_
               case hi_1141 => simp only [List.getElem?_toArray, List.getElem?_cons_zero, List.getElem?_cons_succ]; rfl
               case hf_1141 => kernel_rfl
               case hQ_1141 => exact fun _ _ _ h => h
               case hy_1141 =>
                 refine Or.inl ⟨by rfl, ?_⟩
                 intro W hSw
                 have hm0 := HM0.out
                 go_simp
                 try with_reducible rfl
               try simp only [Act.put, List.setIfInBounds_toArray, List.set_cons_zero, List.set_cons_succ]
               refine wpAnyH_take (i := 21) (oi := ?oi_1142) (v := ?_) ?hi_1142 (by kernel_rfl) ?hf_1142 (by kernel_rfl) ?hQ_1142 ?hy_1142 (by assumption) ?_
               case hi_1142 => simp only [List.getElem?_toArray, List.getElem?_cons_zero, List.getElem?_cons_succ]; rfl
               case hf_1142 => kernel_rfl
               case hQ_1142 => exact fun _ _ _ h => h
               case hy_1142 =>
                 refine Or.inl ⟨by rfl, ?_⟩
                 intro W hSw
                 go_simp
                 try with_reducible rfl
               try simp only [Act.put, List.setIfInBounds_toArray, List.set_cons_zero, List.set_cons_succ]
               refine wpAnyH_take (i := 22) (oi := ?oi_1143) (v := ?_) ?hi_1143 (by kernel_rfl) ?hf_1143 (by kernel_rfl) ?hQ_1143 ?hy_1143 (by assumption) ?_
               case hi_1143 => simp only [List.getElem?_toArray, List.getElem?_cons_zero, List.getElem?_cons_succ]; rfl
               case hf_1143 => kernel_rfl
               case hQ_1143 => exact fun _ _ _ h => h
               case hy_1143 =>
                 refine Or.inl ⟨by rfl, ?_⟩
                 intro W hSw
                 go_simp
                 try with_reducible rfl
               try simp only [Act.put, List.setIfInBounds_toArray, List.set_cons_zero, List.set_cons_succ]
               refine wpAnyH_take (i := 23) (oi := ?oi_1144) (v := ?_) ?hi_1144 (by kernel_rfl) ?hf_1144 (by kernel_rfl) ?hQ_1144 ?hy_1144 (by assumption) ?_
               case hi_1144 => simp only [List.getElem?_toArray, List.getElem?_cons_zero, List.getElem?_cons_succ]; rfl
               case hf_1144 => kernel_rfl
               case hQ_1144 => exact fun _ _ _ h => h
               case hy_1144 =>
                 refine Or.inl ⟨by rfl, ?_⟩
                 intro W hSw
                 go_simp
                 try with_reducible rfl
               try simp only [Act.put, List.setIfInBounds_toArray, List.set_cons_zero, List.set_cons_succ]
               refine wpAnyH_take (i := 24) (oi := ?oi_1145) (v := ?_) ?hi_1145 (by kernel_rfl) ?hf_1145 (by kernel_rfl) ?hQ_1145 ?hy_1145 (by assumption) ?_
               case hi_1145 => simp only [List.getElem?_toArray, List.getElem?_cons_zero, List.getElem?_cons_succ]; rfl
               case hf_1145 => kernel_rfl
               case hQ_1145 => exact fun _ _ _ h => h
               case hy_1145 =>
                 refine Or.inl ⟨by rfl, ?_⟩
                 intro W hSw
                 have hw1 := HW1.out
                 go_simp
                 try with_reducible rfl
               try simp only [Act.put, List.setIfInBounds_toArray, List.set_cons_zero, List.set_cons_succ]
               refine wpAnyH_take (i := 25) (oi := ?oi_1146) (v := ?_) ?hi_1146 (by kernel_rfl) ?hf_1146 (by kernel_rfl) ?hQ_1146 ?hy_1146 (by assumption) ?_
               case hi_1146 => simp only [List.getElem?_toArray, List.getElem?_cons_zero, List.getElem?_cons_succ]; rfl
               case hf_1146 => kernel_rfl
               case hQ_1146 => exact fun _ _ _ h => h
               case hy_1146 =>
                 refine Or.inl ⟨by rfl, ?_⟩
                 intro W hSw
                 have hi1 := HI3.out
                 have hi2 := HI4.out
                 go_simp
                 try with_reducible rfl
               try simp only [Act.put, List.setIfInBounds_toArray, List.set_cons_zero, List.set_cons_succ]
               refine wpAnyH_take (i := 26) (oi := ?oi_1147) (v := ?_) ?hi_1147 (by kernel_rfl) ?hf_1147 (by kernel_rfl) ?hQ_1147 ?hy_1147 (by assumption) ?_
               case hi_1147 => simp only [List.getElem?_toArray, List.getElem?_cons_zero, List.getElem?_cons_succ]; rfl
               case hf_1147 => kernel_rfl
               case hQ_1147 => exact fun _ _ _ h => h
               case hy_1147 =>
                 refine Or.inl ⟨by rfl, ?_⟩
                 intro W hSw
                 go_simp
                 try with_reducible rfl
               try simp only [Act.put, List.setIfInBounds_toArray, List.set_cons_zero, List.set_cons_succ]
               refine wpAnyH_take (i := 27) (oi := ?oi_1148) (v := ?_) ?hi_1148 (by kernel_rfl) ?hf_1148 (by kernel_rfl) ?hQ_1148 ?hy_1148 (by assumption) ?_
               case hi_1148 => simp only [List.getElem?_toArray, List.getElem?_cons_zero, List.getElem?_cons_succ]; rfl
               case hf_1148 => kernel_rfl
               case hQ_1148 => exact fun _ _ _ h => h
               case hy_1148 =>
                 refine Or.inl ⟨by rfl, ?_⟩
                 intro W hSw
                 have xp := HCL3.out W hSw
                 go_simp
                 try with_reducible rfl
               try simp only [Act.put, List.setIfInBounds_toArray, List.set_cons_zero, List.set_cons_succ]
               refine wpAnyH_take (i := 28) (oi := ?oi_1149) (v := ?_) ?hi_1149 (by kernel_rfl) ?hf_1149 (by kernel_rfl) ?hQ_1149 ?hy_1149 (by assumption) ?_
               case hi_1149 => simp only [List.getElem?_toArray, List.getElem?_cons_zero, List.getElem?_cons_succ]; rfl
               case hf_1149 => kernel_rfl
               case hQ_1149 => exact fun _ _ _ h => h
               case hy_1149 =>
                 refine Or.inl ⟨by rfl, ?_⟩
                 intro W hSw
                 go_simp
                 try with_reducible rfl
               try simp only [Act.put, List.setIfInBounds_toArray, List.set_cons_zero, List.set_cons_succ]
               refine wpAnyH_take (i := 29) (oi := ?oi_1150) (v := ?_) ?hi_1150 (by kernel_rfl) ?hf_1150 (by kernel_rfl) ?hQ_1150 ?hy_1150 (by assumption) ?_
               case hi_1150 => simp only [List.getElem?_toArray, List.getElem?_cons_zero, List.getElem?_cons_succ]; rfl
               case hf_1150 => kernel_rfl
               case hQ_1150 => exact fun _ _ _ h => h
               case hy_1150 =>
                 refine Or.inl ⟨by rfl, ?_⟩
                 intro W hSw
                 go_simp
                 try with_reducible rfl
               try simp only [Act.put, List.setIfInBounds_toArray, List.set_cons_zero, List.set_cons_succ]
               refine wpAnyH_take (i := 30) (oi := ?oi_1151) (v := ?_) ?hi_1151 (by kernel_rfl) ?hf_1151 (by kernel_rfl) ?hQ_1151 ?hy_1151 (by assumption) ?_
               case hi_1151 => simp only [List.getElem?_toArray, List.getElem?_cons_zero, List.getElem?_cons_succ]; rfl
               case hf_1151 => kernel_rfl
               case hQ_1151 => exact fun _ _ _ h => h
               case hy_1151 =>
                 refine Or.inl ⟨by rfl, ?_⟩
                 intro W hSw
                 have hi1 := HI1.out
                 have hi2 := HI2.out
                 go_simp
                 try with_reducible rfl
               try simp only [Act.put, List.setIfInBounds_toArray, List.set_cons_zero, List.set_cons_succ]
               refine wpAnyH_take (i := 31) (oi := ?oi_1152) (v := ?_) ?hi_1152 (by kernel_rfl) ?hf_1152 (by kernel_rfl) ?hQ_1152 ?hy_1152 (by assumption) ?_
               case hi_1152 => simp only [List.getElem?_toArray, List.getElem?_cons_zero, List.getElem?_cons_succ]; rfl
               case hf_1152 => kernel_rfl
               case hQ_1152 => exact fun _ _ _ h => h
               case hy_1152 =>
                 refine Or.inl ⟨by rfl, ?_⟩
                 intro W hSw
                 go_simp
                 try with_reducible rfl
               try simp only [Act.put, List.setIfInBounds_toArray, List.set_cons_zero, List.set_cons_succ]
               refine wpAnyH_take (i := 32) (oi := ?oi_1153) (v := ?_) ?hi_1153 (by kernel_rfl) ?hf_1153 (by kernel_rfl) ?hQ_1153 ?hy_1153 (by assumption) ?_
               case hi_1153 => simp only [List.getElem?_toArray, List.getElem?_cons_zero, List.getElem?_cons_succ]; rfl
               case hf_1153 => kernel_rfl
               case hQ_1153 => exact fun _ _ _ h => h
               case hy_1153 =>
                 refine Or.inl ⟨by rfl, ?_⟩
                 intro W hSw
                 have xc := (HCL2.out W hSw).2
                 go_simp
                 try with_reducible rfl
               try simp only [Act.put, List.setIfInBounds_toArray, List.set_cons_zero, List.set_cons_succ]
               refine wpAnyH_take (i := 33) (oi := ?oi_1154) (v := ?_) ?hi_1154 (by kernel_rfl) ?hf_1154 (by kernel_rfl) ?hQ_1154 ?hy_1154 (by assumption) ?_
               case hi_1154 => simp only [List.getElem?_toArray, List.getElem?_cons_zero, List.getElem?_cons_succ]; rfl
               case hf_1154 => kernel_rfl
               case hQ_1154 => exact fun _ _ _ h => h
               case hy_1154 =>
                 refine Or.inl ⟨by rfl, ?_⟩
                 intro W hSw
                 have hdc := HDC.out
                 go_simp
                 try with_reducible rfl
               try simp only [Act.put, List.setIfInBounds_toArray, List.set_cons_zero, List.set_cons_succ]
               refine wpAnyH_take (i := 34) (oi := ?oi_1155) (v := ?_) ?hi_1155 (by kernel_rfl) ?hf_1155 (by kernel_rfl) ?hQ_1155 ?hy_1155 (by assumption) ?_
               case hi_1155 => simp only [List.getElem?_toArray, List.getElem?_cons_zero, List.getElem?_cons_succ]; rfl
               case hf_1155 => kernel_rfl
               case hQ_1155 => exact fun _ _ _ h => h
               case hy_1155 =>
                 refine Or.inl ⟨by rfl, ?_⟩
                 intro W hSw
                 go_simp
                 try with_reducible rfl
               try simp only [Act.put, List.setIfInBounds_toArray, List.set_cons_zero, List.set_cons_succ]
               refine wpAnyH_take (i := 35) (oi := ?oi_1156) (v := ?_) ?hi_1156 (by kernel_rfl) ?hf_1156 (by kernel_rfl) ?hQ_1156 ?hy_1156 (by assumption) ?_
               case hi_1156 => simp only [List.getElem?_toArray, List.getElem?_cons_zero, List.getElem?_cons_succ]; rfl
               case hf_1156 => kernel_rfl
               case hQ_1156 => exact fun _ _ _ h => h
               case hy_1156 =>
                 refine Or.inl ⟨by rfl, ?_⟩
                 intro W hSw
                 go_simp
                 try with_reducible rfl
               try simp only [Act.put, List.setIfInBounds_toArray, List.set_cons_zero, List.set_cons_succ]
               refine wpAnyH_take (i := 36) (oi := ?oi_1157) (v := ?_) ?hi_1157 (by kernel_rfl) ?hf_1157 (by kernel_rfl) ?hQ_1157 ?hy_1157 (by assumption) ?_
               case hi_1157 => simp only [List.getElem?_toArray, List.getElem?_cons_zero, List.getElem?_cons_succ]; rfl
               case hf_1157 => kernel_rfl
               case hQ_1157 => exact fun _ _ _ h => h
               case hy_1157 =>
                 refine Or.inl ⟨by rfl, ?_⟩
                 intro W hSw
                 go_simp
                 try with_reducible rfl
               try simp only [Act.put, List.setIfInBounds_toArray, List.set_cons_zero, List.set_cons_succ]
               refine wpAnyH_ready (rs := [37]) (by kernel_rfl) (by simp) ?_
               refine AllReadyH.cons (o := ?oi_1158) ?hi_1158 (fun K hK => ?_) AllReadyH.nil
               case hi_1158 => simp only [List.getElem?_toArray, List.getElem?_cons_zero, List.getElem?_cons_succ]; rfl
               go_simp
               (go_at_call 37
                with_reducible refine (HW.out _ (HT.out.below (HB3.out.trans (HBN.out.mono HB3.out.size)) HT.out.size)).mono ?_
                rintro e wF ⟨rfl, hbF⟩
                have HBF : Hid (Below w3.heap.size w3 wF) := Lib.hid (HBN.out.trans (hbF.mono HBN.out.size))
                clear hbF)
               refine hK.out _ _ HBF.out (fun hHeld => ?_)
               clear hK K
               try simp only [Act.put, List.setIfInBounds_toArray, List.set_cons_zero, List.set_cons_succ]
               refine wpAnyH_take (i := 38) (oi := ?oi_1159) (v := ?_) ?hi_1159 (by kernel_rfl) ?hf_1159 (by kernel_rfl) ?hQ_1159 ?hy_1159 (by assumption) ?_
               case hi_1159 => simp only [List.getElem?_toArray, List.getElem?_cons_zero, List.getElem?_cons_succ]; rfl
               case hf_1159 => kernel_rfl
               case hQ_1159 => exact fun _ _ _ h => h
               case hy_1159 =>
                 refine Or.inl ⟨by rfl, ?_⟩
                 intro W hSw
                 go_simp
                 try with_reducible rfl
               try simp only [Act.put, List.setIfInBounds_toArray, List.set_cons_zero, List.set_cons_succ]
               refine wpAnyH_take (i := 39) (oi := ?oi_1160) (v := ?_) ?hi_1160 (by kernel_rfl) ?hf_1160 (by kernel_rfl) ?hQ_1160 ?hy_1160 (by assumption) ?_
               case hi_1160 => simp only [List.getElem?_toArray, List.getElem?_cons_zero, List.getElem?_cons_succ]; rfl
               case hf_1160 => kernel_rfl
               case hQ_1160 => exact fun _ _ _ h => h
               case hy_1160 =>
                 refine Or.inl ⟨by rfl, ?_⟩
                 intro W hSw
                 go_simp
                 try with_reducible rfl
               try simp only [Act.put, List.setIfInBounds_toArray, List.set_cons_zero, List.set_cons_succ]
               refine wpAnyH_done (by kernel_rfl) ?_ _
               clear hHeld
               go_wp2
               go_ret
               exact ⟨rfl, HB3.out.trans (HBF.out.mono HB3.out.size)⟩)
end Go.Proofs.YtalpkdnnclghaaaDoor
