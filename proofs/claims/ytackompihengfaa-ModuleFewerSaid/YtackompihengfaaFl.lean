/-
  The law's module as an argument, opened.
-/
import Derived.Test.YtackompihengfaaFk
import Derived.ChangeArms
import Derived.ShutString
namespace Go.Proofs.Ytackompihengfaa
open Go.RowKit Go.ChangeShapes Go.WideShapes Go.Deep
set_option linter.unusedVariables false
set_option linter.unusedSimpArgs false
instance : Inhabited SigT := ⟨⟨[], []⟩⟩
instance : Inhabited ImpT := ⟨⟨⟨#[]⟩, ⟨#[]⟩, 0⟩⟩
instance : Inhabited FunT := ⟨⟨0, [], 0, fun _ => ⟨0, 0, 0, 0, []⟩⟩⟩
instance : Inhabited LimT := ⟨⟨0, 0, false⟩⟩
instance : Inhabited GlT := ⟨⟨0, false, 0⟩⟩
instance : Inhabited ExT := ⟨⟨⟨#[]⟩, 0, 0⟩⟩
instance : Inhabited ElT := ⟨⟨0, []⟩⟩
instance : Inhabited DaT := ⟨⟨0, 0, []⟩⟩
section
variable {H : Type} {enc : TypeId × Value → H} {w : World} {base : Nat} {sp : Nat → Bool} {held : Bool}
theorem str_of {fuel : Nat} {v : Value} {y : DataW H × List MemPlace} (h : DataW.trod enc Try.prog w base sp held fuel 9 [v] = some y) (hw : ∀ n ∈ y.1.weights Try.prog 9, n ≤ reachBytes) : ∃ s : ByteArray, v = .string s ∧ s.size ≤ 140737488355328 := by
  obtain ⟨s, hs, hy, _⟩ := DataW.trod_string Try.underlying9 h
  injection hs with hs
  refine ⟨s, hs, ?_⟩
  subst hy
  have h1 := hw s.data.toList.length (by simp [DataW.weights])
  have e : s.data.toList.length = s.size := by rw [Array.length_toList]; rfl
  rw [e] at h1
  exact Nat.le_trans h1 reach_le
theorem int_of {fuel : Nat} {k : IntKind} {t : TypeId} {v : Value} {y : DataW H × List MemPlace} (ht : Try.prog.underlying t = some (.int k)) (h : DataW.trod enc Try.prog w base sp held fuel t [v] = some y) : ∃ n : Int, v = .int k n ∧ (Lit.int k n).wf = true := by
  obtain ⟨n, e, _, hb⟩ := DataW.trod_int ht h
  injection e with e
  exact ⟨n, e, hb⟩
theorem bool_of {fuel : Nat} {v : Value} {y : DataW H × List MemPlace} (h : DataW.trod enc Try.prog w base sp held fuel 4 [v] = some y) : ∃ b : Bool, v = .bool b := by
  obtain ⟨b, e, _⟩ := DataW.trod_bool Try.underlying4 h
  injection e with e
  exact ⟨b, e⟩
theorem sigs_of {fuel : Nat} {v : Value} {x : DataW H × List MemPlace} (h : DataW.trod enc Try.prog w base sp held fuel 22 [v] = some x) (hw : ∀ n ∈ x.1.weights Try.prog 22, n ≤ reachBytes) :
    ∃ A len cap X, v = .slice A len cap ∧ Row 2 SigAt w A len cap X ∧ len ≤ 140737488355328 ∧ ∀ i, i < len → (X i).P.length ≤ 140737488355328 ∧ (X i).R.length ≤ 140737488355328 :=
  row_of 2 SigAt (fun y => y.P.length ≤ 140737488355328 ∧ y.R.length ≤ 140737488355328) Try.underlying22 Try.underlying48 (by kernel_rfl) (by kernel_rfl) rfl rfl (of_decide_eq_true (by kernel_rfl)) (fun b o hf => by
    obtain ⟨v0, n0, y0, c0, t0, w0⟩ := hf 0 _ rfl
    obtain ⟨v1, n1, y1, c1, t1, w1⟩ := hf 1 _ rfl
    obtain ⟨A, c, l, rfl, hl, hb⟩ := bytes_of_trod t0 w0
    obtain ⟨B, d, m, rfl, hm, hc⟩ := bytes_of_trod t1 w1
    exact ⟨⟨l, m⟩, ⟨A, c, B, d, c0, c1, hl, hm⟩, hb, hc⟩) h hw
theorem imps_of {fuel : Nat} {v : Value} {x : DataW H × List MemPlace} (h : DataW.trod enc Try.prog w base sp held fuel 23 [v] = some x) (hw : ∀ n ∈ x.1.weights Try.prog 23, n ≤ reachBytes) :
    ∃ A len cap X, v = .slice A len cap ∧ Row 3 ImpAt w A len cap X ∧ len ≤ 140737488355328 ∧ ∀ i, i < len → (X i).mo.size ≤ 140737488355328 ∧ (X i).nm.size ≤ 140737488355328 :=
  row_of 3 ImpAt (fun y => y.mo.size ≤ 140737488355328 ∧ y.nm.size ≤ 140737488355328) Try.underlying23 Try.underlying58 (by kernel_rfl) (by kernel_rfl) rfl rfl (of_decide_eq_true (by kernel_rfl)) (fun b o hf => by
    obtain ⟨v0, n0, y0, c0, t0, w0⟩ := hf 0 _ rfl
    obtain ⟨v1, n1, y1, c1, t1, w1⟩ := hf 1 _ rfl
    obtain ⟨v2, n2, y2, c2, t2, w2⟩ := hf 2 _ rfl
    obtain ⟨s, rfl, hs⟩ := str_of t0 w0
    obtain ⟨u, rfl, hu⟩ := str_of t1 w1
    obtain ⟨n, rfl, _⟩ := int_of Try.underlying3 t2
    exact ⟨⟨s, u, n⟩, ⟨c0, c1, c2⟩, hs, hu⟩) h hw
theorem lims_of {fuel : Nat} {v : Value} {x : DataW H × List MemPlace} (h : DataW.trod enc Try.prog w base sp held fuel 25 [v] = some x) (hw : ∀ n ∈ x.1.weights Try.prog 25, n ≤ reachBytes) :
    ∃ A len cap X, v = .slice A len cap ∧ Row 3 LimAt w A len cap X ∧ len ≤ 140737488355328 ∧ ∀ i : Nat, i < len → True :=
  row_of 3 LimAt (fun y => True) Try.underlying25 Try.underlying75 (by kernel_rfl) (by kernel_rfl) rfl rfl (of_decide_eq_true (by kernel_rfl)) (fun b o hf => by
    obtain ⟨v0, n0, y0, c0, t0, w0⟩ := hf 0 _ rfl
    obtain ⟨v1, n1, y1, c1, t1, w1⟩ := hf 1 _ rfl
    obtain ⟨v2, n2, y2, c2, t2, w2⟩ := hf 2 _ rfl
    obtain ⟨n, rfl, _⟩ := int_of Try.underlying3 t0
    obtain ⟨m, rfl, _⟩ := int_of Try.underlying3 t1
    obtain ⟨q, rfl⟩ := bool_of t2
    exact ⟨⟨n, m, q⟩, ⟨c0, c1, c2⟩, trivial⟩) h hw
theorem gls_of {fuel : Nat} {v : Value} {x : DataW H × List MemPlace} (h : DataW.trod enc Try.prog w base sp held fuel 26 [v] = some x) (hw : ∀ n ∈ x.1.weights Try.prog 26, n ≤ reachBytes) :
    ∃ A len cap X, v = .slice A len cap ∧ Row 3 GlAt w A len cap X ∧ len ≤ 140737488355328 ∧ ∀ i : Nat, i < len → True :=
  row_of 3 GlAt (fun y => True) Try.underlying26 Try.underlying79 (by kernel_rfl) (by kernel_rfl) rfl rfl (of_decide_eq_true (by kernel_rfl)) (fun b o hf => by
    obtain ⟨v0, n0, y0, c0, t0, w0⟩ := hf 0 _ rfl
    obtain ⟨v1, n1, y1, c1, t1, w1⟩ := hf 1 _ rfl
    obtain ⟨v2, n2, y2, c2, t2, w2⟩ := hf 2 _ rfl
    obtain ⟨n, rfl, hn⟩ := int_of Try.underlying76 t0
    obtain ⟨q, rfl⟩ := bool_of t1
    obtain ⟨m, rfl, _⟩ := int_of Try.underlying77 t2
    have hn2 := bounds_u8 hn
    obtain ⟨a, rfl⟩ := Int.eq_ofNat_of_zero_le hn2.1
    exact ⟨⟨a, q, m⟩, ⟨c0, c1, c2, by show a < 256; omega⟩, trivial⟩) h hw
theorem exs_of {fuel : Nat} {v : Value} {x : DataW H × List MemPlace} (h : DataW.trod enc Try.prog w base sp held fuel 27 [v] = some x) (hw : ∀ n ∈ x.1.weights Try.prog 27, n ≤ reachBytes) :
    ∃ A len cap X, v = .slice A len cap ∧ Row 3 ExAt w A len cap X ∧ len ≤ 140737488355328 ∧ ∀ i, i < len → (X i).nm.size ≤ 140737488355328 :=
  row_of 3 ExAt (fun y => y.nm.size ≤ 140737488355328) Try.underlying27 Try.underlying53 (by kernel_rfl) (by kernel_rfl) rfl rfl (of_decide_eq_true (by kernel_rfl)) (fun b o hf => by
    obtain ⟨v0, n0, y0, c0, t0, w0⟩ := hf 0 _ rfl
    obtain ⟨v1, n1, y1, c1, t1, w1⟩ := hf 1 _ rfl
    obtain ⟨v2, n2, y2, c2, t2, w2⟩ := hf 2 _ rfl
    obtain ⟨s, rfl, hs⟩ := str_of t0 w0
    obtain ⟨n, rfl, _⟩ := int_of Try.underlying3 t1
    obtain ⟨m, rfl, _⟩ := int_of Try.underlying3 t2
    exact ⟨⟨s, n, m⟩, ⟨c0, c1, c2⟩, hs⟩) h hw
theorem els_of {fuel : Nat} {v : Value} {x : DataW H × List MemPlace} (h : DataW.trod enc Try.prog w base sp held fuel 28 [v] = some x) (hw : ∀ n ∈ x.1.weights Try.prog 28, n ≤ reachBytes) :
    ∃ A len cap X, v = .slice A len cap ∧ Row 2 ElAt w A len cap X ∧ len ≤ 140737488355328 ∧ ∀ i, i < len → (X i).fs.length ≤ 140737488355328 :=
  row_of 2 ElAt (fun y => y.fs.length ≤ 140737488355328) Try.underlying28 Try.underlying82 (by kernel_rfl) (by kernel_rfl) rfl rfl (of_decide_eq_true (by kernel_rfl)) (fun b o hf => by
    obtain ⟨v0, n0, y0, c0, t0, w0⟩ := hf 0 _ rfl
    obtain ⟨v1, n1, y1, c1, t1, w1⟩ := hf 1 _ rfl
    obtain ⟨n, rfl, _⟩ := int_of Try.underlying77 t0
    obtain ⟨A, c, l, rfl, hl, hb⟩ := ints_of_trod t1 w1
    exact ⟨⟨n, l⟩, ⟨A, c, c0, c1, hl⟩, hb⟩) h hw
theorem das_of {fuel : Nat} {v : Value} {x : DataW H × List MemPlace} (h : DataW.trod enc Try.prog w base sp held fuel 29 [v] = some x) (hw : ∀ n ∈ x.1.weights Try.prog 29, n ≤ reachBytes) :
    ∃ A len cap X, v = .slice A len cap ∧ Row 3 DaAt w A len cap X ∧ len ≤ 140737488355328 ∧ ∀ i, i < len → (X i).bs.length ≤ 140737488355328 :=
  row_of 3 DaAt (fun y => y.bs.length ≤ 140737488355328) Try.underlying29 Try.underlying84 (by kernel_rfl) (by kernel_rfl) rfl rfl (of_decide_eq_true (by kernel_rfl)) (fun b o hf => by
    obtain ⟨v0, n0, y0, c0, t0, w0⟩ := hf 0 _ rfl
    obtain ⟨v1, n1, y1, c1, t1, w1⟩ := hf 1 _ rfl
    obtain ⟨v2, n2, y2, c2, t2, w2⟩ := hf 2 _ rfl
    obtain ⟨n, rfl, _⟩ := int_of Try.underlying3 t0
    obtain ⟨m, rfl, _⟩ := int_of Try.underlying77 t1
    obtain ⟨A, c, l, rfl, hl, hb⟩ := bytes_of_trod t2 w2
    exact ⟨⟨n, m, l⟩, ⟨A, c, c0, c1, c2, hl⟩, hb⟩) h hw
set_option maxRecDepth 100000 in
theorem funs_of {fuel : Nat} {v : Value} {x : DataW H × List MemPlace} (h : DataW.trod enc Try.prog w base sp held fuel 24 [v] = some x) (hw : ∀ n ∈ x.1.weights Try.prog 24, n ≤ reachBytes) :
    ∃ A len cap X, v = .slice A len cap ∧ Row 3 FunAt w A len cap X ∧ len ≤ 140737488355328 ∧ ∀ i, i < len → (X i).lc.length ≤ 140737488355328 ∧ IBd (X i).m (X i).X := by
  have hC : Try.prog.cellsOf 63 = 3 := by kernel_rfl
  have hC61 : Try.prog.cellsOf 61 = 2 := by kernel_rfl
  have hC3 : Try.prog.cellsOf 3 = 1 := by kernel_rfl
  have hC46 : Try.prog.cellsOf 46 = 1 := by kernel_rfl
  have hC59 : Try.prog.cellsOf 59 = 1 := by kernel_rfl
  have hB63 : Try.prog.bytesOf 63 = 56 := by kernel_rfl
  rcases open_slice Try.underlying24 h with ⟨h0, _⟩ | ⟨a, len, cap, m, n, D, Pl, hcs, _, hl, hm, hmm, hx, hi⟩
  · injection h0 with h0
    exact ⟨none, 0, 0, fun _ => default, h0, ⟨Nat.le_refl _, Nat.zero_le _, fun h => by omega⟩, by decide, fun i hi => by omega⟩
  · injection hcs with hcs
    subst hx
    have hlen : len ≤ 140737488355328 := by
      have h1 := hw ((((List.range len).map D).length + ((List.range (m - len)).map fun j => D (len + j)).length) * Try.prog.bytesOf 63) (by simp [DataW.weights, Try.underlying24])
      rw [hB63, List.length_map, List.length_range] at h1
      have := reach_le
      omega
    rcases Nat.eq_zero_or_pos len with hz | hz
    · exact ⟨some a, len, cap, fun _ => default, hcs, ⟨hl, hm, fun h => by omega⟩, hlen, fun i hi => by omega⟩
    · have hml : len ≤ m := by rw [hmm]; split <;> omega
      obtain ⟨cs0, hc0, _⟩ := hi 0 (by omega)
      rw [hC] at hc0
      obtain ⟨_, hcl0, hat0⟩ := World.cells?_some hc0
      have hat0' := hat0 0 (by omega)
      rw [List.getElem?_eq_getElem (by omega)] at hat0'
      have hspot := World.cell?_spot hat0'
      have hlt := lt_of_cell hat0'
      obtain ⟨b, off, spot⟩ := a
      have hs : spot = none := by simpa [Addr.add] using hspot
      subst hs
      have hadd : ∀ i, (⟨b, off, none⟩ : Addr).add i = ⟨b, off + i, none⟩ := fun i => by cases i <;> simp [Addr.add]
      simp only [hadd] at hlt
      have hex : ∀ i, ∃ y : FunT, i < len → FunAt w b (off + i * 3) y ∧ y.lc.length ≤ 140737488355328 ∧ IBd y.m y.X := fun i => by
        by_cases hil : i < len
        · obtain ⟨cs, hc, ht⟩ := hi i (by omega)
          rw [hC] at hc
          obtain ⟨_, hcl, hat⟩ := World.cells?_some hc
          obtain ⟨u0, u1, u2, rfl⟩ : ∃ u0 u1 u2, cs = [u0, u1, u2] := by
            match cs, hcl with
            | [u0, u1, u2], _ => exact ⟨u0, u1, u2, rfl⟩
          have z0 := hat 0 (by omega)
          have z1 := hat 1 (by omega)
          have z2 := hat 2 (by omega)
          simp only [hadd, List.getElem?_cons_zero, List.getElem?_cons_succ, Nat.add_zero] at z0 z1 z2
          obtain ⟨ys, n', _, hD, _, hyl, hf⟩ := DataW.trod_struct Try.underlying63 ht
          have f0 := hf 0 _ rfl
          have f1 := hf 1 _ rfl
          try simp only [hC3, hC61, List.drop_zero, List.drop_succ_cons, List.take_succ_cons, List.take_zero] at f0 f1
          obtain ⟨y0, y1, rfl⟩ : ∃ y0 y1, ys = [y0, y1] := by
            match ys, hyl with
            | [y0, y1], _ => exact ⟨y0, y1, rfl⟩
          simp only [List.getElem?_cons_zero, List.getElem?_cons_succ] at f0 f1
          obtain ⟨sg, rfl, _⟩ := int_of Try.underlying3 f0
          obtain ⟨xs, n2, _, hD2, _, hxl, hg⟩ := DataW.trod_struct Try.underlying61 f1
          have g0 := hg 0 _ rfl
          have g1 := hg 1 _ rfl
          try simp only [hC46, hC59, List.drop_zero, List.drop_succ_cons, List.take_succ_cons, List.take_zero] at g0 g1
          obtain ⟨x0, x1, rfl⟩ : ∃ x0 x1, xs = [x0, x1] := by
            match xs, hxl with
            | [x0, x1], _ => exact ⟨x0, x1, rfl⟩
          simp only [List.getElem?_cons_zero, List.getElem?_cons_succ] at g0 g1
          have hDi : D i = .agg [y0.1, y1.1] := congrArg Prod.fst hD
          have hDy : y1.1 = .agg [x0.1, x1.1] := congrArg Prod.fst hD2
          have hmem : D i ∈ (List.range len).map D := List.mem_map.2 ⟨i, List.mem_range.2 hil, rfl⟩
          have hall : ∀ q ∈ DataW.weights Try.prog 63 (D i), q ≤ reachBytes := fun q hq => hw q (by
            simp only [DataW.weights, Try.underlying24, List.mem_cons, List.mem_append]
            exact Or.inr (Or.inl (weightsAll_mem hmem q hq)))
          have w0 : ∀ q ∈ x0.1.weights Try.prog 46, q ≤ reachBytes := fun q hq => hall q (by
            rw [hDi]
            simp only [DataW.weights, Try.underlying63]
            refine DataW.weights_mem_each (j := 1) rfl rfl q ?_
            rw [hDy]
            simp only [DataW.weights, Try.underlying61]
            exact DataW.weights_mem_each (j := 0) rfl rfl q hq)
          have w1 : ∀ q ∈ x1.1.weights Try.prog 59, q ≤ reachBytes := fun q hq => hall q (by
            rw [hDi]
            simp only [DataW.weights, Try.underlying63]
            refine DataW.weights_mem_each (j := 1) rfl rfl q ?_
            rw [hDy]
            simp only [DataW.weights, Try.underlying61]
            exact DataW.weights_mem_each (j := 1) rfl rfl q hq)
          obtain ⟨A, c, l, rfl, hlb, hll⟩ := bytes_of_trod g0 w0
          have hsl : ∃ B ln d, u2 = .slice B ln d := by
            rcases open_slice Try.underlying59 g1 with ⟨e, _⟩ | ⟨a9, l9, c9, _, _, _, _, e, _⟩
            · injection e with e; exact ⟨_, _, _, e⟩
            · injection e with e; exact ⟨_, _, _, e⟩
          obtain ⟨B, ln, d, rfl⟩ := hsl
          obtain ⟨Z, hZ, hZb⟩ := irow_of_arg (d := x1.1) (p := x1.2) ⟨_, g1⟩ w1
          exact ⟨⟨sg, l, ln, Z⟩, fun _ => ⟨⟨A, c, B, d, z0, z1, z2, hlb, hZ⟩, hll, hZb⟩⟩
        · exact ⟨default, fun q => absurd q hil⟩
      exact ⟨some ⟨b, off, none⟩, len, cap, fun i => Classical.choose (hex i), hcs, ⟨hl, hm, fun _ => ⟨b, off, rfl, hlt, fun i hil => (Classical.choose_spec (hex i) hil).1⟩⟩, hlen, fun i hil => (Classical.choose_spec (hex i) hil).2⟩
set_option maxRecDepth 100000 in
/-- the law's module, opened -/
theorem mt_of_arg {r : Reach} {b0 : Nat} {v : Value} {d : DataW H} {ps : List MemPlace} (hval : Value.okWide Try.prog w r b0 31 v) (hd : DataW.Trod enc Try.prog w base sp held 31 v d ps) (hw : ∀ n ∈ d.weights Try.prog 31, n ≤ reachBytes) :
    ∃ x : Mt, v = .agg x.cells ∧ MtAt w x ∧ MtBd x := by
  obtain ⟨cs, rfl, hsz⟩ := okWide_struct Try.underlying31 hval
  obtain ⟨fuel, hf⟩ := hd
  have hC : Try.prog.cellsOf 31 = 10 := by kernel_rfl
  obtain ⟨ys, n', _, hD, _, hyl, hff⟩ := DataW.trod_struct Try.underlying31 hf
  obtain ⟨l⟩ := cs
  rw [hC] at hsz
  obtain ⟨u0, u1, u2, u3, u4, u5, u6, u7, u8, u9, rfl⟩ : ∃ u0 u1 u2 u3 u4 u5 u6 u7 u8 u9, l = [u0, u1, u2, u3, u4, u5, u6, u7, u8, u9] := by
    match l, hsz with
    | [u0, u1, u2, u3, u4, u5, u6, u7, u8, u9], _ => exact ⟨u0, u1, u2, u3, u4, u5, u6, u7, u8, u9, rfl⟩
  obtain ⟨y0, y1, y2, y3, y4, y5, y6, y7, y8, y9, rfl⟩ : ∃ y0 y1 y2 y3 y4 y5 y6 y7 y8 y9, ys = [y0, y1, y2, y3, y4, y5, y6, y7, y8, y9] := by
    match ys, hyl with
    | [y0, y1, y2, y3, y4, y5, y6, y7, y8, y9], _ => exact ⟨y0, y1, y2, y3, y4, y5, y6, y7, y8, y9, rfl⟩
  have h3 : Try.prog.cellsOf 3 = 1 := by kernel_rfl
  have h22 : Try.prog.cellsOf 22 = 1 := by kernel_rfl
  have h23 : Try.prog.cellsOf 23 = 1 := by kernel_rfl
  have h24 : Try.prog.cellsOf 24 = 1 := by kernel_rfl
  have h25 : Try.prog.cellsOf 25 = 1 := by kernel_rfl
  have h26 : Try.prog.cellsOf 26 = 1 := by kernel_rfl
  have h27 : Try.prog.cellsOf 27 = 1 := by kernel_rfl
  have h28 : Try.prog.cellsOf 28 = 1 := by kernel_rfl
  have h29 : Try.prog.cellsOf 29 = 1 := by kernel_rfl
  have f0 := hff 0 _ rfl
  have f1 := hff 1 _ rfl
  have f2 := hff 2 _ rfl
  have f3 := hff 3 _ rfl
  have f4 := hff 4 _ rfl
  have f5 := hff 5 _ rfl
  have f6 := hff 6 _ rfl
  have f7 := hff 7 _ rfl
  have f8 := hff 8 _ rfl
  have f9 := hff 9 _ rfl
  simp only [h3, h22, h23, h24, h25, h26, h27, h28, h29, Value.cells, List.drop_zero, List.drop_succ_cons, List.take_succ_cons, List.take_zero, List.getElem?_cons_zero, List.getElem?_cons_succ] at f0 f1 f2 f3 f4 f5 f6 f7 f8 f9
  have hDD : d = .agg [y0.1, y1.1, y2.1, y3.1, y4.1, y5.1, y6.1, y7.1, y8.1, y9.1] := congrArg Prod.fst hD
  subst hDD
  have w0 : ∀ q ∈ y0.1.weights Try.prog 22, q ≤ reachBytes := fun q hq => hw q (by
    simp only [DataW.weights, Try.underlying31]
    exact DataW.weights_mem_each (j := 0) rfl rfl q hq)
  have w1 : ∀ q ∈ y1.1.weights Try.prog 23, q ≤ reachBytes := fun q hq => hw q (by
    simp only [DataW.weights, Try.underlying31]
    exact DataW.weights_mem_each (j := 1) rfl rfl q hq)
  have w2 : ∀ q ∈ y2.1.weights Try.prog 24, q ≤ reachBytes := fun q hq => hw q (by
    simp only [DataW.weights, Try.underlying31]
    exact DataW.weights_mem_each (j := 2) rfl rfl q hq)
  have w4 : ∀ q ∈ y4.1.weights Try.prog 25, q ≤ reachBytes := fun q hq => hw q (by
    simp only [DataW.weights, Try.underlying31]
    exact DataW.weights_mem_each (j := 4) rfl rfl q hq)
  have w5 : ∀ q ∈ y5.1.weights Try.prog 26, q ≤ reachBytes := fun q hq => hw q (by
    simp only [DataW.weights, Try.underlying31]
    exact DataW.weights_mem_each (j := 5) rfl rfl q hq)
  have w6 : ∀ q ∈ y6.1.weights Try.prog 27, q ≤ reachBytes := fun q hq => hw q (by
    simp only [DataW.weights, Try.underlying31]
    exact DataW.weights_mem_each (j := 6) rfl rfl q hq)
  have w8 : ∀ q ∈ y8.1.weights Try.prog 28, q ≤ reachBytes := fun q hq => hw q (by
    simp only [DataW.weights, Try.underlying31]
    exact DataW.weights_mem_each (j := 8) rfl rfl q hq)
  have w9 : ∀ q ∈ y9.1.weights Try.prog 29, q ≤ reachBytes := fun q hq => hw q (by
    simp only [DataW.weights, Try.underlying31]
    exact DataW.weights_mem_each (j := 9) rfl rfl q hq)
  obtain ⟨A0, n0, c0, X0, rfl, r0, l0, m0⟩ := sigs_of f0 w0
  obtain ⟨A1, n1, c1, X1, rfl, r1, l1, m1⟩ := imps_of f1 w1
  obtain ⟨A2, n2, c2, X2, rfl, r2, l2, m2⟩ := funs_of f2 w2
  obtain ⟨i3, rfl, _⟩ := int_of Try.underlying3 f3
  obtain ⟨A4, n4, c4, X4, rfl, r4, l4, m4⟩ := lims_of f4 w4
  obtain ⟨A5, n5, c5, X5, rfl, r5, l5, m5⟩ := gls_of f5 w5
  obtain ⟨A6, n6, c6, X6, rfl, r6, l6, m6⟩ := exs_of f6 w6
  obtain ⟨i7, rfl, _⟩ := int_of Try.underlying3 f7
  obtain ⟨A8, n8, c8, X8, rfl, r8, l8, m8⟩ := els_of f8 w8
  obtain ⟨A9, n9, c9, X9, rfl, r9, l9, m9⟩ := das_of f9 w9
  exact ⟨⟨⟨A0, n0, c0⟩, X0, ⟨A1, n1, c1⟩, X1, ⟨A2, n2, c2⟩, X2, i3, ⟨A4, n4, c4⟩, X4, ⟨A5, n5, c5⟩, X5, ⟨A6, n6, c6⟩, X6, i7, ⟨A8, n8, c8⟩, X8, ⟨A9, n9, c9⟩, X9⟩, rfl, ⟨r0, r1, r2, r4, r5, r6, r8, r9⟩, ⟨l0, l1, l2, l4, l5, l6, l8, l9, m0, m1, m2, m6, m8, m9⟩⟩
end
end Go.Proofs.Ytackompihengfaa
