/-
  op.Named.
-/
import Derived.Test.YtggfaalodojjkaaGreatDoorOOg
import Derived.OwnWalk
import Derived.Outline
namespace Go.Proofs.YtggfaalodojjkaaGreatDoor
open Go.RowKit Go.ChangeShapes Go.WideShapes Go.ChangeAt
set_option linter.unusedVariables false
set_option linter.unusedSimpArgs false
theorem one_cells (r : Rw) : r.cells.toArray.all (·.oneCell') = true := by
  simp [Rw.cells, fewC, Value.oneCell']
theorem nm_list (r : Rw) (i : Nat) : (nmS r i).data.toList = r.head ++ (wordB r i).data.toList := by
  unfold nmS
  rw [ByteArray.data_append, Array.toList_append]
theorem ba_ext {a b : ByteArray} (h : a.data.toList = b.data.toList) : a = b := by
  cases a; cases b; simp only [ByteArray.mk.injEq]; exact Array.toList_inj.1 h
/-- a name that is a row's: the head is its beginning, and the word what is behind it -/
theorem nm_iff (r : Rw) (i : Nat) (s : ByteArray) : nmS r i = s ↔ Lib.hasPrefix s.data.toList r.head = true ∧ wordB r i = ⟨(Lib.trimPrefix s.data.toList r.head).toArray⟩ := by
  constructor
  · rintro rfl
    have h1 : Lib.hasPrefix (nmS r i).data.toList r.head = true := by
      unfold Lib.hasPrefix; rw [nm_list, List.isPrefixOf_iff_prefix]; exact List.prefix_append _ _
    refine ⟨h1, ba_ext ?_⟩
    unfold Lib.trimPrefix
    rw [if_pos h1, nm_list]
    simp
  · rintro ⟨h1, h2⟩
    apply ba_ext
    rw [nm_list, h2]
    unfold Lib.trimPrefix
    rw [if_pos h1]
    unfold Lib.hasPrefix at h1
    rw [List.isPrefixOf_iff_prefix] at h1
    obtain ⟨t, ht⟩ := h1
    rw [← ht]
    simp
theorem Cut_any (s : ByteArray) (p : List UInt8) (w : World) : Calls Tryz.prog 78 #[.string s, .string ⟨p.toArray⟩] w fun e w' => e = .returned (.tuple #[.string ⟨(Lib.trimPrefix s.data.toList p).toArray⟩, .bool (Lib.hasPrefix s.data.toList p)]) ∧ w = w' :=
  (Tryz.strings_CutPrefix s ⟨p.toArray⟩ w).mono fun e w' ⟨h1, h2⟩ => ⟨by simpa using h1, h2.symm⟩
/-- where a word is among words -/
theorem Idx_any (zs : List ByteArray) (x : ByteArray) (b cap : Nat) (hb : zs.length ≤ 9223372036854775807) (w : World) (hc : ∀ j, j < zs.length → w.cell? ⟨b, 0 + j, none⟩ = some (.string (zs.getD j ByteArray.empty))) :
    (∃ k, k < zs.length ∧ zs.getD k ByteArray.empty = x ∧ Calls Tryz.prog 79 #[.slice (some ⟨b, 0, none⟩) zs.length cap, .string x] w fun e w' => e = .returned (.int .i64 k) ∧ w = w') ∨
    ((∀ k, k < zs.length → zs.getD k ByteArray.empty ≠ x) ∧ Calls Tryz.prog 79 #[.slice (some ⟨b, 0, none⟩) zs.length cap, .string x] w fun e w' => e = .returned (.int .i64 (-1)) ∧ w = w') := by
  have hI := Tryz.slices_Index_string b 0 zs.length cap zs x w (Nat.le_refl _) hb hc
  by_cases h : ∀ k, k < zs.length → zs.getD k ByteArray.empty ≠ x
  · refine .inr ⟨h, hI.mono ?_⟩
    rintro e w' ⟨rfl, rfl⟩
    rw [Lib.idxOfS_miss zs zs.length x h]
    exact ⟨rfl, rfl⟩
  · have hex : ∃ k, k < zs.length ∧ zs.getD k ByteArray.empty = x := by
      simp only [Classical.not_forall, Decidable.not_not] at h
      obtain ⟨k, hk, hx⟩ := h
      exact ⟨k, hk, hx⟩
    obtain ⟨k, hk, hmin⟩ : ∃ k, (k < zs.length ∧ zs.getD k ByteArray.empty = x) ∧ ∀ j, j < k → ¬ (j < zs.length ∧ zs.getD j ByteArray.empty = x) := by
      obtain ⟨k, hk⟩ := hex
      induction k using Nat.strongRecOn with
      | ind k ih =>
        by_cases hm : ∃ j, j < k ∧ (j < zs.length ∧ zs.getD j ByteArray.empty = x)
        · obtain ⟨j, hj, hjx⟩ := hm
          exact ih j hj hjx
        · exact ⟨k, hk, fun j hj hjx => hm ⟨j, hj, hjx⟩⟩
    refine .inl ⟨k, hk.1, hk.2, hI.mono ?_⟩
    rintro e w' ⟨rfl, rfl⟩
    rw [Lib.idxOfS_hit zs zs.length k x hk.1 (Nat.le_refl _) hk.2 (fun j hj hjx => hmin j hj ⟨by omega, hjx⟩)]
    exact ⟨rfl, rfl⟩
def WB (r : Rw) : List ByteArray := (Lib.fields r.names).map fun l => ⟨l.toArray⟩
theorem WS_WB (r : Rw) : WS r.names = (WB r).map Value.string := by unfold WS WB; rw [List.map_map]; rfl
theorem WB_len (r : Rw) : (WB r).length = (Lib.fields r.names).length := by unfold WB; rw [List.length_map]
theorem WB_at (r : Rw) (i : Nat) (h : i < (Lib.fields r.names).length) : (WB r).getD i ByteArray.empty = wordB r i := by
  unfold WB wordB
  rw [List.getD_eq_getElem?_getD, List.getElem?_map, List.getElem?_eq_getElem h]; rfl
theorem Idx_hit (r : Rw) (x : ByteArray) (b : Nat) (hl : (Lib.fields r.names).length < 100) (w : World) (hb : Blk w b 9 (WS r.names).toArray) (hex : ∃ i, i < (Lib.fields r.names).length ∧ wordB r i = x) :
    Calls Tryz.prog 79 #[.slice (some ⟨b, 0, none⟩) (WS r.names).length (WS r.names).length, .string x] w fun e w' => ∃ i : Nat, i < (Lib.fields r.names).length ∧ wordB r i = x ∧ e = .returned (.int .i64 (i : Int)) ∧ w = w' := by
  have hW : (WS r.names).length = (WB r).length := by rw [WS_WB, List.length_map]
  rw [hW]
  rcases Idx_any (WB r) x b (WB r).length (by rw [WB_len]; omega) w (fun j hj => by
    rw [Nat.zero_add, hb.cell, WS_WB, List.getElem?_toArray, List.getElem?_map, List.getD_eq_getElem?_getD, List.getElem?_eq_getElem hj]; rfl) with ⟨k, hk, hx, hc⟩ | ⟨hn, _⟩
  · rw [WB_len] at hk
    rw [WB_at r k hk] at hx
    exact hc.mono fun e w' ⟨h1, h2⟩ => ⟨k, hk, hx, h1, h2⟩
  · obtain ⟨i, hi, hx⟩ := hex
    exact absurd ((WB_at r i hi).trans hx) (hn i (by rw [WB_len]; exact hi))
theorem Idx_miss (r : Rw) (x : ByteArray) (b : Nat) (hl : (Lib.fields r.names).length < 100) (w : World) (hb : Blk w b 9 (WS r.names).toArray) (hex : ¬ ∃ i, i < (Lib.fields r.names).length ∧ wordB r i = x) :
    Calls Tryz.prog 79 #[.slice (some ⟨b, 0, none⟩) (WS r.names).length (WS r.names).length, .string x] w fun e w' => e = .returned (.int .i64 (-1)) ∧ w = w' := by
  have hW : (WS r.names).length = (WB r).length := by rw [WS_WB, List.length_map]
  rw [hW]
  rcases Idx_any (WB r) x b (WB r).length (by rw [WB_len]; omega) w (fun j hj => by
    rw [Nat.zero_add, hb.cell, WS_WB, List.getElem?_toArray, List.getElem?_map, List.getD_eq_getElem?_getD, List.getElem?_eq_getElem hj]; rfl) with ⟨k, hk, hx, _⟩ | ⟨_, hc⟩
  · rw [WB_len] at hk
    rw [WB_at r k hk] at hx
    exact absurd ⟨k, hk, hx⟩ hex
  · exact hc
def NPost (s : ByteArray) (w : World) (e : Ending) (w' : World) : Prop :=
  (∃ (k : Nat) (r : Rw) (i : Nat), RW[k]? = some r ∧ i < (Lib.fields r.names).length ∧ nmS r i = s ∧ IPost r i w e w') ∨
  ((∀ (k : Nat) (r : Rw) (i : Nat), RW[k]? = some r → i < (Lib.fields r.names).length → nmS r i ≠ s) ∧ NoPost w e w')
set_option maxHeartbeats 8000000 in
set_option maxRecDepth 100000 in
theorem Named_any (s : ByteArray) (w : World) (hT : Tb w) : Calls Tryz.prog 48 #[.string s] w (NPost s w) := by
  have R := Lib.hid (fun W => Rows_ok W)
  have HRW := Lib.hid RW_length
  have IX := Lib.hid idx97
  generalize CR = C at R IX
  have HT := Lib.hid hT
  clear hT
  go_enter Tryz.func48, Tryz.ntmps48
  go_wp2_with (go_at_call 77; (with_reducible refine (R.out _).mono ?_); rintro e w1 ⟨rfl, rfl⟩)
  go_loopw [10] (fun v10 wr => ∃ (k : Nat), k ≤ 38 ∧ v10 = .int .i64 k ∧ Hid (∀ (j : Nat) (r : Rw) (i : Nat), j < k → RW[j]? = some r → i < (Lib.fields r.names).length → nmS r i ≠ s) ∧ Hid (Blk wr w.heap.size 61 Z57) ∧ Hid (Below w.heap.size w wr)) (fun v10 _ => 38 - (intOf v10).toNat)
  case atStart => exact ⟨0, by omega, rfl, Lib.hid (fun j r i h => by omega), Lib.hid ((Blk.new w 61 Z57).alloc _), Lib.hid (((Below.refl _ _).alloc (Nat.le_refl _) _).alloc (by simp) _)⟩
  case round =>
    obtain ⟨k, hk, rfl, HN, HB0, HB⟩ := hrel
    by_cases hlt : k < 38
    · obtain ⟨r, HR⟩ : ∃ r, Hid (RW[k]? = some r) := ⟨_, Lib.hid (List.getElem?_eq_getElem (by rw [HRW.out]; omega))⟩
      have HG := Lib.hid (good_in (List.mem_of_getElem? HR.out))
      have ix := IX.out k r HR.out
      have HC1 := Lib.hid (one_cells r)
      have HCS : Hid (r.cells.toArray.size = 10) := Lib.hid rfl
      have HAT : Hid (∀ W b, Blk W b 141 r.cells.toArray → RowAt W b 0 r) := Lib.hid (fun W b hb j hj => by rw [hb.cell, Nat.zero_add, List.getElem?_toArray])
      generalize r.cells.toArray = rc at ix HC1 HCS HAT
      have hdk : decide ((k : Int) < 38) = true := by simp; omega
      have HF := Lib.hid (fun W hT => Fld_ok r.names (by have := HG.out.len; omega) HG.out.ascii W hT)
      have HCut := Lib.hid (fun W => Cut_any s r.head W)
      have HNI := Lib.hid (fun i => nm_iff r i s)
      obtain ⟨rs, hrs⟩ : ∃ rs : ByteArray, rs = ⟨(Lib.trimPrefix s.data.toList r.head).toArray⟩ := ⟨_, rfl⟩
      rw [← hrs] at HCut HNI
      obtain ⟨pf, hpf⟩ : ∃ pf : Bool, pf = Lib.hasPrefix s.data.toList r.head := ⟨_, rfl⟩
      rw [← hpf] at HCut HNI
      clear hrs hpf
      have HNX : Hid ((∀ i, i < (Lib.fields r.names).length → nmS r i ≠ s) → ∀ (j : Nat) (r : Rw) (i : Nat), j < k + 1 → RW[j]? = some r → i < (Lib.fields r.names).length → nmS r i ≠ s) := Lib.hid (fun h j r' i hj hr' hi => by
        by_cases e : j = k
        · subst e
          obtain rfl : r = r' := Option.some.inj (HR.out.symm.trans hr')
          exact h i hi
        · exact HN.out j r' i (by omega) hr' hi)
      cases pf with
      | false =>
        have HN2 := Lib.hid (HNX.out (fun i _ h => by have := (HNI.out i).1 h; simp at this))
        go_wp2_with (first
          | (with_reducible refine wpList_store_row rfl 141 (.tmp 5) (.tmp 12) rfl wr.heap.size rc rfl rfl 141 #[.int .i64 0, .string ⟨#[]⟩, .string ⟨#[]⟩, .int .i64 0, .int .u8 0, .int .u8 0, .int .u8 0, .int .u8 0, .int .u8 0, .int .u8 0] ?d1 ?d2 ?d3 ?d4 ?_
             case d1 => exact heap_alloc_new _ _
             case d2 => rw [HCS.out]; kernel_rfl
             case d3 => rw [HCS.out]; rfl
             case d4 => exact HC1.out
             rw [World.setRow_alloc_new]
             generalize hw2 : wr.alloc (.cells rc 141) = w2
             have HBB : Hid (Below wr.heap.size wr w2) := Lib.hid (by rw [← hw2]; exact (Below.refl _ _).alloc (Nat.le_refl _) _)
             have HBK : Hid (Blk w2 wr.heap.size 141 rc) := Lib.hid (by rw [← hw2]; exact Blk.new _ _ _)
             have HB2 : Hid (Below w.heap.size w w2) := Lib.hid (HB.out.trans (HBB.out.mono HB.out.size))
             have HA := Lib.hid (HAT.out w2 _ HBK.out)
             have c1 : w2.cell? ⟨wr.heap.size, 1, none⟩ = some (.string ⟨r.head.toArray⟩) := (rowCells HA.out).2.1
             have HB02 := Lib.hid (HB0.out.below HBB.out HB0.out.lt)
             clear hw2)
          | (go_at_call 78; (with_reducible refine (HCut.out _).mono ?_); rintro e w3 ⟨rfl, rfl⟩))
        go_roundw
        case rel => exact ⟨k + 1, by omega, by go_num, HN2, HB02, HB2⟩
        case measure => simp [intOf]; omega
      | true =>
        have HIh := Lib.hid (fun W b hb hex => Idx_hit r rs b HG.out.words W hb hex)
        have HIm := Lib.hid (fun W b hb hex => Idx_miss r rs b HG.out.words W hb hex)
        have hw9 := HG.out.words
        have HWL : Hid ((WS r.names).length = (Lib.fields r.names).length) := Lib.hid (by unfold WS; rw [List.length_map])
        rw [← HWL.out] at hw9
        generalize (WS r.names) = ws at HF HWL hw9 HIh HIm
        obtain ⟨n, hn⟩ : ∃ n, n = ws.length := ⟨_, rfl⟩
        rw [← hn] at HF HWL hw9 HIh HIm
        clear hn
        by_cases hex : ∃ i, i < (Lib.fields r.names).length ∧ wordB r i = rs
        · have HEX := Lib.hid hex
          clear hex
          have HII := Lib.hid (fun i hi W hT hat => Info_ok r HG.out wr.heap.size 0 i hi W hT hat)
          go_wp2_with (first
            | (with_reducible refine wpList_store_row rfl 141 (.tmp 5) (.tmp 12) rfl wr.heap.size rc rfl rfl 141 #[.int .i64 0, .string ⟨#[]⟩, .string ⟨#[]⟩, .int .i64 0, .int .u8 0, .int .u8 0, .int .u8 0, .int .u8 0, .int .u8 0, .int .u8 0] ?d1 ?d2 ?d3 ?d4 ?_
               case d1 => exact heap_alloc_new _ _
               case d2 => rw [HCS.out]; kernel_rfl
               case d3 => rw [HCS.out]; rfl
               case d4 => exact HC1.out
               rw [World.setRow_alloc_new]
               generalize hw2 : wr.alloc (.cells rc 141) = w2
               have HBB : Hid (Below wr.heap.size wr w2) := Lib.hid (by rw [← hw2]; exact (Below.refl _ _).alloc (Nat.le_refl _) _)
               have HBK : Hid (Blk w2 wr.heap.size 141 rc) := Lib.hid (by rw [← hw2]; exact Blk.new _ _ _)
               have HB2 : Hid (Below w.heap.size w w2) := Lib.hid (HB.out.trans (HBB.out.mono HB.out.size))
               have HA := Lib.hid (HAT.out w2 _ HBK.out)
               have hrc := rowCells HA.out
               have c1 : w2.cell? ⟨wr.heap.size, 1, none⟩ = some (.string ⟨r.head.toArray⟩) := hrc.2.1
               have c2 : w2.cell? ⟨wr.heap.size, 2, none⟩ = some (.string ⟨r.names.toArray⟩) := hrc.2.2.1
               have HB02 := Lib.hid (HB0.out.below HBB.out HB0.out.lt)
               have HT2 := Lib.hid (HT.out.below HB2.out HT.out.size)
               clear hw2 hrc)
            | (go_at_call 78; (with_reducible refine (HCut.out _).mono ?_); rintro e w3 ⟨rfl, rfl⟩)
            | (go_at_call 80; (with_reducible refine (HF.out _ HT2.out).mono ?_); rintro e w3 ⟨rfl, rfl⟩
               generalize hw3 : w2.alloc (.cells ws.toArray 9) = w3
               have HBC : Hid (Below w2.heap.size w2 w3) := Lib.hid (by rw [← hw3]; exact (Below.refl _ _).alloc (Nat.le_refl _) _)
               have HBW : Hid (Blk w3 w2.heap.size 9 ws.toArray) := Lib.hid (by rw [← hw3]; exact Blk.new _ _ _)
               have HB3 : Hid (Below w.heap.size w w3) := Lib.hid (HB2.out.trans (HBC.out.mono HB2.out.size))
               have HA3 := Lib.hid (HAT.out w3 _ (HBK.out.below HBC.out HBK.out.lt))
               have HB03 := Lib.hid (HB02.out.below HBC.out HB02.out.lt)
               have HT3 := Lib.hid (HT.out.below HB3.out HT.out.size)
               clear hw3 c1 c2)
            | (go_at_call 79; (with_reducible refine (HIh.out _ _ HBW.out HEX.out).mono ?_); rintro e w4 ⟨i, hi, hx, rfl, rfl⟩
               have HIL := Lib.hid hi
               have HIX := Lib.hid hx
               have HI := Lib.hid (HII.out i hi w3 HT3.out HA3.out)
               clear hi hx)
            | (go_at_call 81; (with_reducible refine HI.out.mono ?_); rintro e w5 ⟨At, ct, Ag, cg, rfl, h1, h2, h3⟩
               have H1 := Lib.hid h1
               have H2 := Lib.hid h2
               have H3 := Lib.hid h3
               clear h1 h2 h3)
            | (with_reducible refine wpList_store61 rfl (.tmp 2) (.tmp 30) rfl w.heap.size Z57 _ _ _ _ _ _ _ _ _ rfl rfl (HB03.out.below H3.out HB03.out.lt) (Lib.hid rfl) ?_))
          refine bodyPost_ret (v := _) (res_cell Tryz.results48 _ _ w.heap.size 61 _ _ rfl (setRow_heap w5 w.heap.size Z57 _ 61 (0, 0) (HB03.out.below H3.out HB03.out.lt)) Tryz.underlying61 rfl (by kernel_rfl)) rfl ?_
          have hs2 : w.heap.size < w3.heap.size := HB03.out.lt
          exact .inl ⟨k, r, i, HR.out, HIL.out, (HNI.out i).2 ⟨by first | rfl | trivial, HIX.out⟩, At, ct, Ag, cg, rfl, own_base (own_setRow H1.out hs2) (Nat.le_of_lt hs2), own_base (own_setRow H2.out hs2) (Nat.le_of_lt hs2), below_setRow (HB3.out.trans (H3.out.mono HB3.out.size)) (Nat.le_refl _) _⟩
        · have HEX := Lib.hid hex
          clear hex
          have HN2 := Lib.hid (HNX.out (fun i hi h => HEX.out ⟨i, hi, ((HNI.out i).1 h).2⟩))
          go_wp2_with (first
            | (with_reducible refine wpList_store_row rfl 141 (.tmp 5) (.tmp 12) rfl wr.heap.size rc rfl rfl 141 #[.int .i64 0, .string ⟨#[]⟩, .string ⟨#[]⟩, .int .i64 0, .int .u8 0, .int .u8 0, .int .u8 0, .int .u8 0, .int .u8 0, .int .u8 0] ?d1 ?d2 ?d3 ?d4 ?_
               case d1 => exact heap_alloc_new _ _
               case d2 => rw [HCS.out]; kernel_rfl
               case d3 => rw [HCS.out]; rfl
               case d4 => exact HC1.out
               rw [World.setRow_alloc_new]
               generalize hw2 : wr.alloc (.cells rc 141) = w2
               have HBB : Hid (Below wr.heap.size wr w2) := Lib.hid (by rw [← hw2]; exact (Below.refl _ _).alloc (Nat.le_refl _) _)
               have HBK : Hid (Blk w2 wr.heap.size 141 rc) := Lib.hid (by rw [← hw2]; exact Blk.new _ _ _)
               have HB2 : Hid (Below w.heap.size w w2) := Lib.hid (HB.out.trans (HBB.out.mono HB.out.size))
               have HA := Lib.hid (HAT.out w2 _ HBK.out)
               have hrc := rowCells HA.out
               have c1 : w2.cell? ⟨wr.heap.size, 1, none⟩ = some (.string ⟨r.head.toArray⟩) := hrc.2.1
               have c2 : w2.cell? ⟨wr.heap.size, 2, none⟩ = some (.string ⟨r.names.toArray⟩) := hrc.2.2.1
               have HB02 := Lib.hid (HB0.out.below HBB.out HB0.out.lt)
               have HT2 := Lib.hid (HT.out.below HB2.out HT.out.size)
               clear hw2 hrc)
            | (go_at_call 78; (with_reducible refine (HCut.out _).mono ?_); rintro e w3 ⟨rfl, rfl⟩)
            | (go_at_call 80; (with_reducible refine (HF.out _ HT2.out).mono ?_); rintro e w3 ⟨rfl, rfl⟩
               generalize hw3 : w2.alloc (.cells ws.toArray 9) = w3
               have HBC : Hid (Below w2.heap.size w2 w3) := Lib.hid (by rw [← hw3]; exact (Below.refl _ _).alloc (Nat.le_refl _) _)
               have HBW : Hid (Blk w3 w2.heap.size 9 ws.toArray) := Lib.hid (by rw [← hw3]; exact Blk.new _ _ _)
               have HB3 : Hid (Below w.heap.size w w3) := Lib.hid (HB2.out.trans (HBC.out.mono HB2.out.size))
               have HA3 := Lib.hid (HAT.out w3 _ (HBK.out.below HBC.out HBK.out.lt))
               have HB03 := Lib.hid (HB02.out.below HBC.out HB02.out.lt)
               have HT3 := Lib.hid (HT.out.below HB3.out HT.out.size)
               clear hw3 c1 c2)
            | (go_at_call 79; (with_reducible refine (HIm.out _ _ HBW.out HEX.out).mono ?_); rintro e w4 ⟨rfl, rfl⟩))
          go_roundw
          case rel => exact ⟨k + 1, by omega, by go_num, HN2, HB03, HB3⟩
          case measure => simp [intOf]; omega
    · obtain rfl : k = 38 := by omega
      have HN2 : Hid (∀ (j : Nat) (r : Rw) (i : Nat), RW[j]? = some r → i < (Lib.fields r.names).length → nmS r i ≠ s) := Lib.hid (fun j r i hj hi => HN.out j r i (by rw [← HRW.out]; exact (List.getElem?_eq_some_iff.1 hj).1) hj hi)
      go_wp2_with (with_reducible refine wpList_store61 rfl (.tmp 2) (.tmp 33) rfl w.heap.size Z57 _ _ _ _ _ _ _ _ _ rfl rfl HB0.out (Lib.hid rfl) ?_)
      refine bodyPost_ret (v := _) (res_cell Tryz.results48 _ _ w.heap.size 61 _ _ rfl (setRow_heap wr w.heap.size Z57 _ 61 (0, 0) HB0.out) Tryz.underlying61 rfl (by kernel_rfl)) rfl ?_
      exact .inr ⟨HN2.out, rfl, below_setRow HB.out (Nat.le_refl _) _⟩
end Go.Proofs.YtggfaalodojjkaaGreatDoor
