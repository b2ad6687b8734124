/-
  leb.Put and leb.PutSigned put the fewest bytes behind any others; the walks of the document s own Put and PutSigned.
-/
import Derived.Test.YtggfaalodojjkaaGreatDoorQLf
import Derived.Laws.CopyOwn
import Derived.OwnWalk
import Derived.Deep.OwnRows
namespace Go.Proofs.YtggfaalodojjkaaGreatDoor
open Go.RowKit
set_option linter.unusedVariables false
/-- make with a length and a capacity -/
theorem wpList_make_lc {P : Program} (w : World) {ops : Array Oper} {rest : List Oper} {o : Oper} {a : Act} {Q : Exit → Act → World → Prop}
    (hg : o.guard = none) (l c : Operand) (t : TypeId) (hop : o.op = Op.makeSlice t l c)
    (e : TypeId) (i : TypeInfo) (z : Value) (h1 : P.underlying t = some (.slice e)) (h2 : P.info? e = some i) (h3 : i.zero = some z) (h4 : i.size = 1)
    (kl kc : IntKind) (L C : Int) (n m : Nat) (hl : a.eval l = .int kl L) (hc : a.eval c = .int kc C) (hL : L = (n : Int)) (hC : C = (m : Int)) (hnm : n ≤ m) (b2 : i.bytes * m ≤ 281474976710656) (b3 : m ≤ maxLen)
    (hK : ∀ w', Hid (w'.heap[w.heap.size]? = some (.cells (madeCells z.cells m) e (0, 0))) → Below w.heap.size w w' → wpList P ops Q rest (a.put o.dst (.slice (some ⟨w.heap.size, 0, none⟩) n m)) w') :
    wpList P ops Q (o :: rest) a w := by
  refine wpList_plain hg fun K hK' => ?_
  have hm : (m : Int) ≤ 9223372036854775807 := by simp [maxLen] at b3; omega
  have hb : (i.bytes : Int) * (m : Int) ≤ 281474976710656 := by
    have h : ((i.bytes * m : Nat) : Int) ≤ 281474976710656 := by omega
    rwa [Int.natCast_mul] at h
  have hrun := run_make (P := P) w t e i z h1 h2 h3 kl kc (n : Int) (m : Int) (by omega) (by omega) hb hm
  simp only [Int.toNat_natCast, h4, Nat.mul_one] at hrun
  subst hL
  subst hC
  unfold Oper.wp
  simp [execOp, hop, hl, hc, hrun, Result.andThen]
  exact hK' _ _ (hK _ (Lib.hid (heap_alloc_new w _)) ((Below.refl _ _).alloc (Nat.le_refl _) _))
theorem info5size : (Tryz.prog.info? 5).map (·.size) = some 1 := by kernel_rfl
theorem map_getD (l : List Nat) (j : Nat) (h : j < l.length) : (l.map U8)[j]? = some (U8 (l.getD j 0)) := by
  rw [List.getElem?_map, List.getElem?_eq_getElem h, List.getD_eq_getElem?_getD, List.getElem?_eq_getElem h]; rfl
theorem addr_add (b off j : Nat) : (⟨b, off, none⟩ : Addr).add j = ⟨b, off + j, none⟩ := by cases j <;> rfl
/-- what is owned can be read as bytes -/
theorem byt_of_own {w : World} {B n : Nat} {v : Value} {l : List Nat} (h : w.ownsRow B 5 1 v n (l.map U8)) (hn : 0 < n) (hx : ∀ x ∈ l, x < 256) : ∃ g cp, v = .slice (some ⟨g, 0, none⟩) n cp ∧ Byt w (some ⟨g, 0, none⟩) n cp l ∧ B ≤ g := by
  rcases h.2 with ⟨_, h0⟩ | ⟨g, cap, cur, rfl, hB, hg, hnc, hm, hcs, htk⟩
  · omega
  · have hlen : l.length = n := by have := h.1; rw [List.length_map] at this; omega
    refine ⟨g, cap, rfl, ⟨hlen, hx, hnc, hm, fun _ => ⟨g, 0, rfl, ?_, fun j hj => ?_⟩⟩, hB⟩
    · rcases Nat.lt_or_ge g w.heap.size with hlt | hge
      · exact hlt
      · rw [Array.getElem?_eq_none hge] at hg; cases hg
    · rw [Nat.zero_add, cell_of_row w g j cur 5 (0, 0) hg]
      have e1 : cur[j]? = (cur.toList.take (n * 1))[j]? := by
        rw [List.getElem?_take_of_lt (by omega), Array.getElem?_toList]
      rw [e1, htk, map_getD l j (by omega)]; rfl
theorem own_start {w : World} {B g n c : Nat} {cur X : List Value} (hX : X.length = n) (hcur : cur.length = n + c) (hB : B ≤ g) (hm : n + c ≤ maxLen) (hg : w.heap[g]? = some (.cells (splice cur 0 X).toArray 5 (0, 0))) :
    w.ownsRow B 5 1 (.slice (some ⟨g, 0, none⟩) n (n + c)) n X := by
  refine ⟨by omega, .inr ⟨g, n + c, _, rfl, hB, hg, by omega, hm, ?_, ?_⟩⟩
  · simp [splice]; omega
  · simp only [splice, List.take_zero, List.nil_append]
    rw [List.take_append_of_le_length (by omega), List.take_of_length_le (by omega)]
def PutPost (B N : Nat) (L : List Nat) (w : World) (e : Ending) (w' : World) : Prop :=
  ∃ g cp, e = .returned (.slice (some ⟨g, 0, none⟩) N cp) ∧ Byt w' (some ⟨g, 0, none⟩) N cp L ∧ Below B w w'
theorem or128_all : ∀ x : Fin 256, x.val ||| 128 = x.val % 128 + 128 := by decide +kernel
theorem or128 (m : Int) : bits BinOp.or IntKind.u8 (m % 256) 128 = (((m % 128).toNat + 128 : Nat) : Int) := by
  have h := u8_or_nat (m % 256).toNat 128 (by omega) (by omega)
  have e1 : (((m % 256).toNat : Nat) : Int) = m % 256 := by omega
  rw [e1, show ((128 : Nat) : Int) = 128 from rfl] at h
  rw [h]
  congr 1
  obtain ⟨x, hx⟩ : ∃ x : Fin 256, x.val = (m % 256).toNat := ⟨⟨(m % 256).toNat, by omega⟩, rfl⟩
  rw [← hx, show (m % 128).toNat = x.val % 128 by omega]
  exact or128_all x
theorem andNot128' (m : Int) : bits BinOp.andNot IntKind.u8 (m % 256) 128 = (((m % 128).toNat : Nat) : Int) := by
  have h := u8_andNot_nat (m % 256).toNat 128 (by omega) (by omega)
  have e1 : (((m % 256).toNat : Nat) : Int) = m % 256 := by omega
  rw [e1, show ((128 : Nat) : Int) = 128 from rfl] at h
  rw [h]
  congr 1
  have := Nat.and_two_pow_sub_one_eq_mod (m % 256).toNat 7
  rw [show 2 ^ 7 - 1 = 255 - 128 from rfl] at this
  rw [this]; omega

set_option maxHeartbeats 1000000 in
set_option maxRecDepth 100000 in
theorem put_u64 (A : Option Addr) (n cap : Nat) (l : List Nat) (m0 : Int) (k : Nat) (sz : Int) (w : World) (hb : Byt w A n cap l) (hn1 : n ≤ 1000) (hk9 : k ≤ 9) (hsz : sz = (k : Int) + 1) (h0 : 0 ≤ m0) :
    Calls Tryz.prog 60 #[.slice A n cap, .int .u64 m0, .int .i64 sz] w (PutPost w.heap.size (n + k + 1) (l ++ Leb.enc k m0) w) := by
  obtain ⟨i0, hi, hz0, hz1, hz2⟩ := info_parts info5
  have HB := Lib.hid hb
  have hn : n ≤ cap := hb.2.2.1
  have hlen := Lib.hid hb.1
  clear hb
  subst hsz
  obtain ⟨X, hX⟩ : ∃ X, X = l.map U8 := ⟨_, rfl⟩
  have hXl : Hid (X.length = n) := Lib.hid (by rw [hX, List.length_map]; exact hlen.out)
  have hXc : Hid (∀ b off, A = some ⟨b, off, none⟩ → ∀ j v, X[j]? = some v → w.cell? ((⟨b, off, none⟩ : Addr).add j) = some v) := Lib.hid (by
    intro b off hA j v hv
    have hj : j < l.length := by
      have := (List.getElem?_eq_some_iff.1 hv).1
      rw [hX, List.length_map] at this; exact this
    rw [hX, map_getD l j hj] at hv
    obtain ⟨b', off', hA', _, hcell⟩ := HB.out.2.2.2.2 (by have := hlen.out; omega)
    rw [hA] at hA'
    injection hA' with hA'
    injection hA' with e1 e2 _
    subst e1
    subst e2
    rw [addr_add, hcell j (by have := hlen.out; omega)]
    exact hv)
  have hXb : Hid (∀ b off, A = some ⟨b, off, none⟩ → 0 < n → b < w.heap.size) := Lib.hid (by
    intro b off hA h0
    obtain ⟨b', off', hA', hlt, _⟩ := HB.out.2.2.2.2 h0
    rw [hA] at hA'
    injection hA' with hA'
    injection hA' with e1 e2 _
    subst e1
    exact hlt)
  have hX1 : Hid (∀ v ∈ X, v.oneCell' = true) := Lib.hid (by
    intro v hv
    rw [hX, List.mem_map] at hv
    obtain ⟨x, _, rfl⟩ := hv
    rfl)
  have hXE := Lib.hid hX
  clear hX
  obtain ⟨cur, hcur⟩ : ∃ cur, cur = (madeCells (Value.int .u8 0).cells (n + (k + 1))).toList := ⟨_, rfl⟩
  have hcurl : Hid (cur.length = n + (k + 1)) := Lib.hid (by rw [hcur, Array.length_toList, size_madeCells])
  have hcurE : Hid ((madeCells (Value.int .u8 0).cells (n + (k + 1))) = cur.toArray) := Lib.hid (by rw [hcur])
  clear hcur
  go_enter Tryz.func60, Tryz.ntmps60
  go_wp2_with (first
    | (at_make; refine wpList_make_lc _ rfl (.tmp 9) (.tmp 13) 27 rfl 5 i0 _ Tryz.underlying27 hi hz0 hz1 .i64 .i64 _ _ n (n + (k + 1)) rfl rfl rfl (by omega) (by omega) (by rw [hz2]; omega) (by unfold maxLen; omega) ?_
       intro w1 hg1 hbel1
       have HG1 : Hid (w1.heap[w.heap.size]? = some (.cells cur.toArray 5 (0, 0))) := Lib.hid (by rw [← hcurE.out]; exact hg1.out)
       have HB1 := Lib.hid hbel1
       clear hg1 hbel1)
    | (with_reducible refine wpList_copy_splice rfl (.tmp 15) (.tmp 16) 27 27 rfl 5 Tryz.underlying27 info5size (some ⟨w.heap.size, 0, none⟩) A n (n + (k + 1)) n cap rfl rfl w.heap.size 0 cur 5 HG1.out X ?d1 ?d2 ?d3 hX1.out w.heap.size w HB1.out (Nat.le_refl _) ?_
       case d1 => rw [hXl.out]; exact (Nat.min_self n).symm
       case d2 =>
         intro h0
         rw [hXl.out] at h0
         obtain ⟨b, off, hA, _, _⟩ := HB.out.2.2.2.2 h0
         refine ⟨rfl, _, hA, fun j v hv => ?_⟩
         have hbs := hXb.out b off hA h0
         rw [HB1.out.cell (by rw [addr_add]; exact hbs)]
         exact hXc.out b off hA j v hv
       case d3 => rw [hXl.out, hcurl.out]; omega
       intro w2 hg2 hbel2
       have HB2 := Lib.hid hbel2
       clear hbel2))
  have HO2 : Hid (w2.ownsRow w.heap.size 5 1 (.slice (some ⟨w.heap.size, 0, none⟩) n (n + (k + 1))) n X) := Lib.hid (own_start hXl.out hcurl.out (Nat.le_refl _) (by unfold maxLen; omega) hg2.out)
  clear hg2
  go_loopw [1, 7, 20] (fun v1 v7 v20 wr => ∃ (j : Nat) (m : Int) (done : List Nat), j ≤ k ∧ v20 = .int .i64 j ∧ v1 = .int .u64 m ∧ 0 ≤ m ∧ Hid (Leb.enc k m0 = done ++ Leb.enc (k - j) m) ∧ Hid (wr.ownsRow w.heap.size 5 1 v7 (n + j) (X ++ done.map U8)) ∧ Hid (Below w.heap.size w wr)) (fun _ _ i _ => k - (intOf i).toNat)
  case atStart => exact ⟨0, m0, [], by omega, rfl, rfl, h0, Lib.hid rfl, Lib.hid (by rw [List.map_nil, List.append_nil]; exact HO2.out), HB2⟩
  case round =>
    obtain ⟨j, m, done, hj, rfl, rfl, hm0, HE, HO, HBl⟩ := hrel
    obtain ⟨y, hy⟩ : ∃ y : Nat, y = (m % 128).toNat := ⟨_, rfl⟩
    by_cases hlt : j < k
    · have hor := or128 m
      have HE2 : Hid (Leb.enc k m0 = (done ++ [y + 128]) ++ Leb.enc (k - (j + 1)) (m / 128)) := Lib.hid (by
        rw [HE.out, show k - j = (k - (j + 1)) + 1 by omega, Leb.enc, List.append_assoc, hy]; rfl)
      rw [← hy] at hor
      obtain ⟨y2, hy2⟩ : ∃ y2 : Nat, y2 = y + 128 := ⟨_, rfl⟩
      rw [← hy2] at hor HE2
      clear hy hy2 HE
      go_wp2_with (at_builtin; refine wpList_append_own _ rfl (.tmp 22) (.tmp 26) 27 rfl w.heap.size 5 i0 _ 1 1 Tryz.underlying27 hi hz0 hz1 hz2 rfl (by decide) _ (n + j) _ rfl (HO.out.alloc _) ⟨wr.heap.size, 0, none⟩ 1 1 [U8 y2] rfl rfl (cell_new _ _ _) ?c2 ?c3 ?c4 ?c5 ?_)
      case c2 => intro u hu; simp at hu; subst hu; rfl
      case c3 => unfold maxLen; omega
      case c4 => omega
      case c5 => have := HBl.out.size; simp; omega
      intro v1 w3 hown1 hg1 _
      have HO3 : Hid (w3.ownsRow w.heap.size 5 1 v1 (n + (j + 1)) (X ++ (done ++ [y2]).map U8)) := Lib.hid (by
        rw [List.map_append]; exact hown1)
      have HB3 : Hid (Below w.heap.size w w3) := Lib.hid (own_below HBl.out HBl.out.size HO.out hg1)
      clear hown1 hg1
      go_wp2
      go_roundw
      case rel => exact ⟨j + 1, m / 128, done ++ [y2], by omega, by go_num, by go_num, by omega, HE2, HO3, HB3⟩
      case measure => simp [intOf]; omega
    · obtain rfl : j = k := by omega
      have han := andNot128' m
      rw [← hy] at han
      have HE2 : Hid (X ++ (done.map U8 ++ [U8 y]) = (l ++ Leb.enc j m0).map U8) := Lib.hid (by
        rw [HE.out, Nat.sub_self, List.map_append, List.map_append, hXE.out, hy]; rfl)
      clear hy
      go_wp2_with (at_builtin; refine wpList_append_own _ rfl (.tmp 31) (.tmp 35) 27 rfl w.heap.size 5 i0 _ 1 1 Tryz.underlying27 hi hz0 hz1 hz2 rfl (by decide) _ (n + j) _ rfl (HO.out.alloc _) ⟨wr.heap.size, 0, none⟩ 1 1 [U8 y] rfl rfl (cell_new _ _ _) ?c2 ?c3 ?c4 ?c5 ?_)
      case c2 => intro u hu; simp at hu; subst hu; rfl
      case c3 => unfold maxLen; omega
      case c4 => omega
      case c5 => have := HBl.out.size; simp; omega
      intro v1 w3 hown1 hg1 _
      have HB3 : Hid (Below w.heap.size w w3) := Lib.hid (own_below HBl.out HBl.out.size HO.out hg1)
      have hfin : ∃ g cp, v1 = .slice (some ⟨g, 0, none⟩) (n + j + 1) cp ∧ Byt w3 (some ⟨g, 0, none⟩) (n + j + 1) cp (l ++ Leb.enc j m0) ∧ w.heap.size ≤ g :=
        byt_of_own (by rw [← HE2.out]; exact hown1) (by omega) (by
          intro x hx
          rcases List.mem_append.1 hx with h | h
          · exact HB.out.2.1 x h
          · exact Leb.enc_lt _ _ x h)
      have HF := Lib.hid hfin
      clear hfin hown1 hg1
      go_wp2
      go_ret
      obtain ⟨g, cp, hv, hby, _⟩ := HF.out
      exact ⟨g, cp, by rw [hv]; rfl, hby, HB3.out⟩

set_option maxHeartbeats 1000000 in
set_option maxRecDepth 100000 in
theorem put_i64 (A : Option Addr) (n cap : Nat) (l : List Nat) (m0 : Int) (k : Nat) (sz : Int) (w : World) (hb : Byt w A n cap l) (hn1 : n ≤ 1000) (hk9 : k ≤ 9) (hsz : sz = (k : Int) + 1) :
    Calls Tryz.prog 57 #[.slice A n cap, .int .i64 m0, .int .i64 sz] w (PutPost w.heap.size (n + k + 1) (l ++ Leb.enc k m0) w) := by
  obtain ⟨i0, hi, hz0, hz1, hz2⟩ := info_parts info5
  have HB := Lib.hid hb
  have hn : n ≤ cap := hb.2.2.1
  have hlen := Lib.hid hb.1
  clear hb
  subst hsz
  obtain ⟨X, hX⟩ : ∃ X, X = l.map U8 := ⟨_, rfl⟩
  have hXl : Hid (X.length = n) := Lib.hid (by rw [hX, List.length_map]; exact hlen.out)
  have hXc : Hid (∀ b off, A = some ⟨b, off, none⟩ → ∀ j v, X[j]? = some v → w.cell? ((⟨b, off, none⟩ : Addr).add j) = some v) := Lib.hid (by
    intro b off hA j v hv
    have hj : j < l.length := by
      have := (List.getElem?_eq_some_iff.1 hv).1
      rw [hX, List.length_map] at this; exact this
    rw [hX, map_getD l j hj] at hv
    obtain ⟨b', off', hA', _, hcell⟩ := HB.out.2.2.2.2 (by have := hlen.out; omega)
    rw [hA] at hA'
    injection hA' with hA'
    injection hA' with e1 e2 _
    subst e1
    subst e2
    rw [addr_add, hcell j (by have := hlen.out; omega)]
    exact hv)
  have hXb : Hid (∀ b off, A = some ⟨b, off, none⟩ → 0 < n → b < w.heap.size) := Lib.hid (by
    intro b off hA h0
    obtain ⟨b', off', hA', hlt, _⟩ := HB.out.2.2.2.2 h0
    rw [hA] at hA'
    injection hA' with hA'
    injection hA' with e1 e2 _
    subst e1
    exact hlt)
  have hX1 : Hid (∀ v ∈ X, v.oneCell' = true) := Lib.hid (by
    intro v hv
    rw [hX, List.mem_map] at hv
    obtain ⟨x, _, rfl⟩ := hv
    rfl)
  have hXE := Lib.hid hX
  clear hX
  obtain ⟨cur, hcur⟩ : ∃ cur, cur = (madeCells (Value.int .u8 0).cells (n + (k + 1))).toList := ⟨_, rfl⟩
  have hcurl : Hid (cur.length = n + (k + 1)) := Lib.hid (by rw [hcur, Array.length_toList, size_madeCells])
  have hcurE : Hid ((madeCells (Value.int .u8 0).cells (n + (k + 1))) = cur.toArray) := Lib.hid (by rw [hcur])
  clear hcur
  go_enter Tryz.func57, Tryz.ntmps57
  go_wp2_with (first
    | (at_make; refine wpList_make_lc _ rfl (.tmp 9) (.tmp 13) 27 rfl 5 i0 _ Tryz.underlying27 hi hz0 hz1 .i64 .i64 _ _ n (n + (k + 1)) rfl rfl rfl (by omega) (by omega) (by rw [hz2]; omega) (by unfold maxLen; omega) ?_
       intro w1 hg1 hbel1
       have HG1 : Hid (w1.heap[w.heap.size]? = some (.cells cur.toArray 5 (0, 0))) := Lib.hid (by rw [← hcurE.out]; exact hg1.out)
       have HB1 := Lib.hid hbel1
       clear hg1 hbel1)
    | (with_reducible refine wpList_copy_splice rfl (.tmp 15) (.tmp 16) 27 27 rfl 5 Tryz.underlying27 info5size (some ⟨w.heap.size, 0, none⟩) A n (n + (k + 1)) n cap rfl rfl w.heap.size 0 cur 5 HG1.out X ?d1 ?d2 ?d3 hX1.out w.heap.size w HB1.out (Nat.le_refl _) ?_
       case d1 => rw [hXl.out]; exact (Nat.min_self n).symm
       case d2 =>
         intro h0
         rw [hXl.out] at h0
         obtain ⟨b, off, hA, _, _⟩ := HB.out.2.2.2.2 h0
         refine ⟨rfl, _, hA, fun j v hv => ?_⟩
         have hbs := hXb.out b off hA h0
         rw [HB1.out.cell (by rw [addr_add]; exact hbs)]
         exact hXc.out b off hA j v hv
       case d3 => rw [hXl.out, hcurl.out]; omega
       intro w2 hg2 hbel2
       have HB2 := Lib.hid hbel2
       clear hbel2))
  have HO2 : Hid (w2.ownsRow w.heap.size 5 1 (.slice (some ⟨w.heap.size, 0, none⟩) n (n + (k + 1))) n X) := Lib.hid (own_start hXl.out hcurl.out (Nat.le_refl _) (by unfold maxLen; omega) hg2.out)
  clear hg2
  go_loopw [1, 7, 20] (fun v1 v7 v20 wr => ∃ (j : Nat) (m : Int) (done : List Nat), j ≤ k ∧ v20 = .int .i64 j ∧ v1 = .int .i64 m ∧  Hid (Leb.enc k m0 = done ++ Leb.enc (k - j) m) ∧ Hid (wr.ownsRow w.heap.size 5 1 v7 (n + j) (X ++ done.map U8)) ∧ Hid (Below w.heap.size w wr)) (fun _ _ i _ => k - (intOf i).toNat)
  case atStart => exact ⟨0, m0, [], by omega, rfl, rfl,  Lib.hid rfl, Lib.hid (by rw [List.map_nil, List.append_nil]; exact HO2.out), HB2⟩
  case round =>
    obtain ⟨j, m, done, hj, rfl, rfl,  HE, HO, HBl⟩ := hrel
    obtain ⟨y, hy⟩ : ∃ y : Nat, y = (m % 128).toNat := ⟨_, rfl⟩
    by_cases hlt : j < k
    · have hor := or128 m
      have HE2 : Hid (Leb.enc k m0 = (done ++ [y + 128]) ++ Leb.enc (k - (j + 1)) (m / 128)) := Lib.hid (by
        rw [HE.out, show k - j = (k - (j + 1)) + 1 by omega, Leb.enc, List.append_assoc, hy]; rfl)
      rw [← hy] at hor
      obtain ⟨y2, hy2⟩ : ∃ y2 : Nat, y2 = y + 128 := ⟨_, rfl⟩
      rw [← hy2] at hor HE2
      clear hy hy2 HE
      go_wp2_with (at_builtin; refine wpList_append_own _ rfl (.tmp 22) (.tmp 26) 27 rfl w.heap.size 5 i0 _ 1 1 Tryz.underlying27 hi hz0 hz1 hz2 rfl (by decide) _ (n + j) _ rfl (HO.out.alloc _) ⟨wr.heap.size, 0, none⟩ 1 1 [U8 y2] rfl rfl (cell_new _ _ _) ?c2 ?c3 ?c4 ?c5 ?_)
      case c2 => intro u hu; simp at hu; subst hu; rfl
      case c3 => unfold maxLen; omega
      case c4 => omega
      case c5 => have := HBl.out.size; simp; omega
      intro v1 w3 hown1 hg1 _
      have HO3 : Hid (w3.ownsRow w.heap.size 5 1 v1 (n + (j + 1)) (X ++ (done ++ [y2]).map U8)) := Lib.hid (by
        rw [List.map_append]; exact hown1)
      have HB3 : Hid (Below w.heap.size w w3) := Lib.hid (own_below HBl.out HBl.out.size HO.out hg1)
      clear hown1 hg1
      go_wp2
      go_roundw
      case rel => exact ⟨j + 1, m / 128, done ++ [y2], by omega, by go_num, by go_num,  HE2, HO3, HB3⟩
      case measure => simp [intOf]; omega
    · obtain rfl : j = k := by omega
      have han := andNot128' m
      rw [← hy] at han
      have HE2 : Hid (X ++ (done.map U8 ++ [U8 y]) = (l ++ Leb.enc j m0).map U8) := Lib.hid (by
        rw [HE.out, Nat.sub_self, List.map_append, List.map_append, hXE.out, hy]; rfl)
      clear hy
      go_wp2_with (at_builtin; refine wpList_append_own _ rfl (.tmp 31) (.tmp 35) 27 rfl w.heap.size 5 i0 _ 1 1 Tryz.underlying27 hi hz0 hz1 hz2 rfl (by decide) _ (n + j) _ rfl (HO.out.alloc _) ⟨wr.heap.size, 0, none⟩ 1 1 [U8 y] rfl rfl (cell_new _ _ _) ?c2 ?c3 ?c4 ?c5 ?_)
      case c2 => intro u hu; simp at hu; subst hu; rfl
      case c3 => unfold maxLen; omega
      case c4 => omega
      case c5 => have := HBl.out.size; simp; omega
      intro v1 w3 hown1 hg1 _
      have HB3 : Hid (Below w.heap.size w w3) := Lib.hid (own_below HBl.out HBl.out.size HO.out hg1)
      have hfin : ∃ g cp, v1 = .slice (some ⟨g, 0, none⟩) (n + j + 1) cp ∧ Byt w3 (some ⟨g, 0, none⟩) (n + j + 1) cp (l ++ Leb.enc j m0) ∧ w.heap.size ≤ g :=
        byt_of_own (by rw [← HE2.out]; exact hown1) (by omega) (by
          intro x hx
          rcases List.mem_append.1 hx with h | h
          · exact HB.out.2.1 x h
          · exact Leb.enc_lt _ _ x h)
      have HF := Lib.hid hfin
      clear hfin hown1 hg1
      go_wp2
      go_ret
      obtain ⟨g, cp, hv, hby, _⟩ := HF.out
      exact ⟨g, cp, by rw [hv]; rfl, hby, HB3.out⟩
end Go.Proofs.YtggfaalodojjkaaGreatDoor
