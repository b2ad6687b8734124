/-
  grommetlaw04.ArenaRooms walked: whatever is taken and given back, each answer is as the list of rooms tells.
-/
import Derived.Test.YtkmocjbpinmlaaaAi
import Derived.Deep.RegionHeld3
import Derived.WalkKit
import Derived.ProofKit
import Derived.OpenShut
import Derived.ShutString
import Derived.ChangeOld
import Derived.Below
namespace Go.Proofs.Ytkmocjbpinmlaaa
open Go.RowKit
set_option linter.unusedVariables false
set_option linter.unusedSimpArgs false
theorem own_shape {w : World} {B : Nat} {v : Value} {L : List Rm} (h : w.ownsRow B 33 3 v L.length (rows L)) :
    ∃ A7 cp, v = .slice A7 L.length cp ∧ L.length ≤ cp ∧ cp ≤ maxLen ∧ (0 < L.length → ∃ g cur, A7 = some ⟨g, 0, none⟩ ∧ B ≤ g ∧ Blk w g 33 cur ∧ ∀ k j x, L[k]? = some x → j < 3 → w.cell? ⟨g, k * 3 + j, none⟩ = x.cs[j]?) := by
  rcases h.2 with ⟨e, h0⟩ | ⟨g, cap, cur, e, hB, hg, h1, h2, h3, h4⟩
  · exact ⟨none, 0, by rw [e, h0], by omega, Nat.zero_le _, fun q => by omega⟩
  · refine ⟨_, cap, e, h1, h2, fun _ => ⟨g, cur, rfl, hB, hg, fun k j x hx hj => ?_⟩⟩
    have hkl : k < L.length := (List.getElem?_eq_some_iff.1 hx).1
    rw [Blk.cell hg, ← rows_get L k j x hx hj, ← h4, List.getElem?_take_of_lt (by omega), Array.getElem?_toList]
theorem Are.mine33 {w : World} {a bb rm gm g : Nat} {d : Ad} {cur : Array Value} (h : Are w a bb rm gm d) (hg : Blk w g 33 cur) : ¬ d.mine a bb rm gm g := by
  obtain ⟨n, _, hi⟩ := h.rooms
  obtain ⟨n', _, hi'⟩ := h.given
  rintro (rfl | rfl | rfl | rfl | ⟨c, hc, e⟩)
  · exact hg.ne_ h.blk (by decide) rfl
  · exact hg.ne_ h.byt (by decide) rfl
  · exact hi.ne_ hg rfl
  · exact hi'.ne_ hg rfl
  · obtain ⟨g', cap, cur', e', hg', _⟩ := h.row hc
    rw [e'] at e
    simp only [Value.ownBlock, Option.some.injEq] at e
    subst e
    exact hg.ne_ hg' (by decide) rfl
theorem own33_fr {w w' : World} {S : Nat → Prop} {B n : Nat} {v : Value} {xs : List Value} (h : w.ownsRow B 33 3 v n xs) (hf : Fr S w w') (hS : ∀ g cur, Blk w g 33 cur → ¬ S g) : w'.ownsRow B 33 3 v n xs := by
  refine ⟨h.1, ?_⟩
  rcases h.2 with h0 | ⟨g, cap, cur, e, h1, hg, h2⟩
  · exact .inl h0
  · subst e
    exact .inr ⟨g, cap, cur, rfl, h1, hf.keep hg (hS g cur hg), h2⟩
theorem gvS_mine {w : World} {a bb rm gm : Nat} {d : Ad} {c k : Nat} (h : Are w a bb rm gm d) (hk : gvS a rm gm d c k) : d.mine a bb rm gm k := by
  have h0 := h.own0 c
  rcases hk with rfl | rfl | rfl | hk
  · exact .inl rfl
  · exact .inr (.inr (.inl rfl))
  · exact .inr (.inr (.inr (.inl rfl)))
  · by_cases e : d.G c = []
    · rw [h0.2.2 e] at hk; cases hk
    · rw [h0.2.1 e] at hk; exact .inr (.inr (.inr (.inr ⟨c, e, hk⟩)))
theorem arb_mine {a bb rm gm : Nat} {d : Ad} {k : Nat} (hk : arb a bb rm gm k) : d.mine a bb rm gm k := by
  rcases hk with rfl | rfl | rfl | rfl
  · exact .inl rfl
  · exact .inr (.inl rfl)
  · exact .inr (.inr (.inl rfl))
  · exact .inr (.inr (.inr (.inl rfl)))
def gvF (L : List Rm) (n : Int) (j : Nat) : Bool := match L[j]? with | some x => x.tk && decide ((x.at_ : Int) = n) | none => false
theorem gvF_at {L : List Rm} {n : Int} {j : Nat} (h : j < L.length) : gvF L n j = (L[j].tk && decide ((L[j].at_ : Int) = n)) := by
  unfold gvF
  rw [List.getElem?_eq_getElem h]
theorem RR.no {L : List Rm} {d : Ad} {n : Int} (h : RR L d) (hno : ∀ i, i < L.length → gvF L n i = false) : (d.fr n).isSome = false := by
  unfold Ad.fr
  by_cases h0 : 0 ≤ n
  · rw [if_pos h0]
    cases hR : d.R n.toNat with
    | none => rfl
    | some c =>
      have hm := (h.R _ _).1 hR
      obtain ⟨j, hj, e⟩ := List.mem_iff_getElem.1 hm
      have := hno j hj
      rw [gvF_at hj, e] at this
      simp at this
      omega
  · rw [if_neg h0]; rfl
theorem RR.bd {L : List Rm} {d : Ad} {w wr : World} {a bb rm gm : Nat} (h : RR L d) (ha : ARel w a bb rm gm d wr) {x : Rm} (hx : x ∈ L) : x.at_ ≤ 4194304 ∧ x.sz ≤ 4194304 := by
  have := h.inn x hx
  have := ha.are.hsz
  have := ha.are.lim
  omega
theorem el28 : Try.prog.underlying 28 = some (.slice (Try.prog.elem 28)) := by kernel_rfl
theorem sz28 (W : World) : (sizeOf (Try.prog.elem 28)).run Try.prog W = .ok 3 W := by kernel_rfl
theorem info33 : (Try.prog.info? 33).map (fun i => (i.zero, i.size, i.bytes)) = some (some (.agg #[.int .i64 0, .int .i64 0, .bool false]), 3, 24) := by kernel_rfl
theorem cutH_run (g n cp j : Nat) (h : j ≤ cp) (W : World) :
    (Instr.slice 28 (.slice (some ⟨g, 0, none⟩) n cp) none (some (.int .i64 (j : Int))) none).run Try.prog W = .ok (.slice (some ⟨g, 0, none⟩) j cp) W := by
  rw [run_slice_h (P := Try.prog) W 28 (some ⟨g, 0, none⟩) n cp el28 .i64 (j : Int) (by omega) (by omega), sz28]
  simp only [Result.andThen, sliced, Int.toNat_natCast, Nat.zero_mul, Nat.sub_zero]
  split <;> rfl
def cutL (g cp j : Nat) : Addr := if cp = j then ⟨g, 0, none⟩ else ⟨g, j * 3, none⟩
theorem cutL_run (g n cp j : Nat) (hi : Int) (hh : hi = (j : Int)) (h : j ≤ n) (W : World) :
    (Instr.slice 28 (.slice (some ⟨g, 0, none⟩) n cp) (some (.int .i64 hi)) none none).run Try.prog W = .ok (.slice (some (cutL g cp j)) (n - j) (cp - j)) W := by
  subst hh
  rw [run_slice_l (P := Try.prog) W 28 (some ⟨g, 0, none⟩) n cp el28 .i64 (j : Int) (by omega) (by omega), sz28]
  simp only [Result.andThen, sliced, Int.toNat_natCast, cutL]
  split
  · rfl
  · rw [Option.map_some, addr_add, Nat.zero_add]
def Kp (w4 : World) (X p xs : Nat) (W : World) : Prop :=
  Fr (fun _ => False) w4 W ∧ W.cell? ⟨X, 0, none⟩ = some (.int .i64 (p : Int)) ∧ W.cell? ⟨X, 1, none⟩ = some (.int .i64 (xs : Int)) ∧ W.cell? ⟨X, 2, none⟩ = some (.bool false)
theorem Kp.start {w4 : World} {X p xs : Nat} (h : Blk w4 X 33 #[Value.int .i64 (p : Int), Value.int .i64 (xs : Int), Value.bool false]) : Kp w4 X p xs w4.drew :=
  ⟨(Fr.refl _ _).drew, h.cell 0, h.cell 1, h.cell 2⟩
theorem Kp.fr {w4 W W' : World} {X p xs : Nat} {T : Nat → Prop} (h : Kp w4 X p xs W) (hX : X < w4.heap.size) (hf : Fr T W W') (hT : ∀ k, T k → w4.heap.size ≤ k) : Kp w4 X p xs W' := by
  obtain ⟨h0, h1, h2, h3⟩ := h
  have hb : W'.heap[X]? = W.heap[X]? := hf.block X (Nat.lt_of_lt_of_le hX h0.size) (fun q => by have := hT X q; omega)
  exact ⟨h0.trans_new hf (fun k q => .inr (hT k q)), (World.cell?_of_block hb).trans h1, (World.cell?_of_block hb).trans h2, (World.cell?_of_block hb).trans h3⟩
theorem Kp.alloc {w4 W : World} {X p xs : Nat} (h : Kp w4 X p xs W) (hX : X < w4.heap.size) (o : Obj) : Kp w4 X p xs (W.alloc o) :=
  h.fr (T := fun _ => False) hX ((Fr.refl _ _).alloc o) (fun k q => q.elim)
theorem own_ge {w : World} {B n : Nat} {v : Value} {xs : List Value} (h : w.ownsRow B 33 3 v n xs) : ∀ k, v.ownBlock = some k → B ≤ k ∧ k < w.heap.size := by
  intro k hk
  rcases h.2 with ⟨e, _⟩ | ⟨g, cap, cur, e, hB, hg, _⟩
  · rw [e] at hk; cases hk
  · rw [e] at hk
    simp only [Value.ownBlock, Option.some.injEq] at hk
    subst hk
    exact ⟨hB, Blk.lt hg⟩
theorem own_base {w : World} {B B' n : Nat} {v : Value} {xs : List Value} (h : w.ownsRow B 33 3 v n xs) (hB : B' ≤ B) : w.ownsRow B' 33 3 v n xs := by
  refine ⟨h.1, ?_⟩
  rcases h.2 with h0 | ⟨g, cap, cur, e, h1, h2⟩
  · exact .inl h0
  · exact .inr ⟨g, cap, cur, e, Nat.le_trans hB h1, h2⟩
def ApPost (B n m : Nat) (v : Value) (xs news : List Value) (W : World) (v' : Value) (W' : World) : Prop :=
  W'.ownsRow B 33 3 v' (n + m) (xs ++ news) ∧ Fr (fun k => v.ownBlock = some k) W W' ∧ ∀ k, v'.ownBlock = some k → v.ownBlock = some k ∨ W.heap.size ≤ k
theorem step_append_33 {ops : Array Oper} {o : Oper} {a : Act} {w : World} {K : Act → World → Prop} {Q : Exit → Act → World → Prop} {E : Prop} (hgd : o.guard = none) (s x : Operand)
    (ho : o.op = .call { callee := .builtin .append, args := #[s, x], argTypes := #[28, 28] }) (B n : Nat) (v : Value) (xs : List Value) (hs : a.eval s = v) (hown : w.ownsRow B 33 3 v n xs)
    (ad : Addr) (m c : Nat) (news : List Value) (hx : a.eval x = .slice (some ad) m c) (hl : news.length = m * 3) (hnews : ∀ j u, news[j]? = some u → w.cell? (ad.add j) = some u) (h1 : ∀ u ∈ news, u.oneCell' = true)
    (hnm : n + m ≤ 1000) (hB : B ≤ w.heap.size) (h : ∀ v' w', ApPost B n m v xs news w v' w' → K (a.put o.dst v') w') :
    if Region.wanted o (yielded ops a.tmps) = true then Oper.wp Try.prog o a w K Q else E := by
  obtain ⟨i0, hi, hz0, hz1, hz2⟩ := info_parts info33
  obtain ⟨v', w', hr, h2, h3, _, h4⟩ := run_append_own_at (P := Try.prog) w B 28 o.type 33 i0 _ 3 24 Try.underlying28 hi hz0 hz1 hz2 rfl (by decide) v n xs hown ad m c news hl hnews h1 (by unfold maxLen; omega) (by omega) hB
  have hw : Region.wanted o (yielded ops a.tmps) = true := by simp [Region.wanted, hgd]
  rw [if_pos hw]
  unfold Oper.wp
  simp [execOp, ho, resolve, invoke, builtin, hs, hx, hr, Result.andThen]
  refine h v' w' ⟨h2, Fr.grownV h3, fun k hk => ?_⟩
  rcases h4 with e | e
  · exact .inl (e ▸ hk)
  · rw [e] at hk; injection hk with hk; exact .inr (by omega)
/-- what a room was boxed as lies where the append doesn't write -/
def YP (W : World) (Y : Nat) (p xs : Nat) (v : Value) : Prop := Blk W Y 33 #[Value.int .i64 (p : Int), Value.int .i64 (xs : Int), Value.bool false] ∧ ∀ k, v.ownBlock = some k → k ≠ Y
theorem YP.app {W W' : World} {Y p xs B n m : Nat} {v v' : Value} {l news : List Value} (h : YP W Y p xs v) (ha : ApPost B n m v l news W v' W') : YP W' Y p xs v' := by
  refine ⟨h.1.fr ha.2.1 (fun q => h.2 Y q rfl), fun k hk => ?_⟩
  rcases ha.2.2 k hk with q | q
  · exact h.2 k q
  · have := h.1.lt; omega
theorem YP.new {W : World} {p xs B n : Nat} {v : Value} {l : List Value} (h : W.ownsRow B 33 3 v n l) : YP (W.alloc (.cells #[Value.int .i64 (p : Int), Value.int .i64 (xs : Int), Value.bool false] 33)) W.heap.size p xs v :=
  ⟨Blk.new W 33 _, fun k hk => by have := (own_ge h k hk).2; omega⟩
theorem YP.cells {W : World} {Y p xs : Nat} {v : Value} (h : YP W Y p xs v) : ∀ j u, (Rm.cs ⟨p, xs, false⟩)[j]? = some u → W.cell? ((⟨Y, 0, none⟩ : Addr).add j) = some u := Blk.src h.1
theorem below_of_fr {w w' : World} (h : Fr (fun _ => False) w w') : Below w.heap.size w w' := ⟨h.os, h.tape, h.output, h.size, fun k hk => h.block k hk (fun q => q)⟩
theorem ARel.put33 {w w1 : World} {a bb rm gm g i : Nat} {d : Ad} {cur : Array Value} {v : Value} (h : ARel w a bb rm gm d w1) (hg : Blk w1 g 33 cur) (hB : w.heap.size ≤ g) : ARel w a bb rm gm d (w1.setCell ⟨g, i, none⟩ v) := by
  have hf : Fr (· = g) w1 (w1.setCell ⟨g, i, none⟩ v) := (Fr.refl (· = g) w1).set_ (p := ⟨g, i, none⟩) rfl v
  exact ⟨h.are.fr hf (fun k hk e => h.are.mine33 hg (e ▸ hk)), hf.below h.bel h.bel.size (fun k hk => by rw [hk]; exact hB), h.ha, h.hb, h.hr, h.hg, h.own⟩
def isF (L : List Rm) (c : Nat) (j : Nat) : Bool := match L[j]? with | some x => x.is c | none => false
theorem isF_at {L : List Rm} {c j : Nat} (h : j < L.length) : isF L c j = L[j].is c := by
  unfold isF
  rw [List.getElem?_eq_getElem h]
theorem ARel.app33 {w w1 w2 : World} {a bb rm gm n : Nat} {d : Ad} {v : Value} {xs : List Value} {o : Obj} (h : ARel w a bb rm gm d w1) (ho : w1.ownsRow w.heap.size 33 3 v n xs) (hg : (w1.alloc o).grownBy w2 v.ownBlock) : ARel w a bb rm gm d w2 := by
  have h1 : ARel w a bb rm gm d (w1.alloc o) := h.mv ((Below.refl _ _).alloc (Nat.le_refl _) o)
  have hf := Fr.grownV hg
  have hne : ∀ k, v.ownBlock = some k → ∃ cur, Blk w1 k 33 cur := fun k hk => by
    rcases ho.2 with ⟨e, _⟩ | ⟨g, cap, cur, e, _, hb, _⟩
    · rw [e] at hk; cases hk
    · rw [e] at hk
      simp only [Value.ownBlock, Option.some.injEq] at hk
      subst hk
      exact ⟨cur, hb⟩
  exact ⟨h1.are.fr hf (fun k hk e => by
    obtain ⟨cur, hb⟩ := hne k e
    exact h.are.mine33 hb hk), hf.below h1.bel h1.bel.size (fun k hk => (own_ge ho k hk).1), h.ha, h.hb, h.hr, h.hg, h.own⟩
theorem RR.free {L : List Rm} {d : Ad} (h : RR L d) {k : Nat} (hk : k < L.length) (ht : L[k].tk = false) : (d.fr ((L[k].at_ : Nat) : Int)).isSome = false := by
  rw [Ad.fr_nat, Option.isSome_map]
  cases hR : d.R L[k].at_ with
  | none => rfl
  | some c =>
    have hm := (h.R _ _).1 hR
    have hne := h.ne hk
    rcases (mem_split hk _).1 hm with q | q | q
    · exact (hne.1 _ q rfl).elim
    · have := congrArg Rm.tk q
      rw [ht] at this
      cases this
    · exact (hne.2 _ q rfl).elim
theorem RR.took {L : List Rm} {d : Ad} (h : RR L d) {k : Nat} (hk : k < L.length) (ht : L[k].tk = true) : d.R L[k].at_ = some L[k].sz := by
  refine (h.R _ _).2 ?_
  have : L[k] = ⟨L[k].at_, L[k].sz, true⟩ := by rw [← ht]
  rw [← this]
  exact List.getElem_mem hk
set_option maxHeartbeats 1000000 in
set_option maxRecDepth 100000 in
theorem lclass_any (n : Int) (w : World) (h : n ≤ 4194304) :
    Calls Try.prog 11 #[.int .i64 n] w fun e w' => e = .returned (.int .i64 (cl n)) ∧ w = w' := by
  go_enter Try.func11, Try.ntmps11
  go_wp2
  go_loop [3] (fun c => ∃ f k : Nat, f + k = 18 ∧ k ≤ 18 ∧ c = .int .i64 ((16 * 2 ^ k : Nat) : Int) ∧ Hid (clAux f (16 * 2 ^ k) n = cl n)) (fun c => 8388608 - (intOf c).toNat)
  case atStart => exact ⟨18, 0, rfl, by omega, rfl, Lib.hid rfl⟩
  case round =>
    obtain ⟨f, k, hfk, hk, rfl, HE⟩ := hrel
    have hp := Nat.one_le_two_pow (n := k)
    have hp2 := Nat.pow_le_pow_right (n := 2) (by decide) hk
    obtain ⟨c, hc⟩ : ∃ c, c = 16 * 2 ^ k := ⟨_, rfl⟩
    rw [← hc] at HE ⊢
    have hc1 : 16 ≤ c := by omega
    have hc2 : c ≤ 4194304 := by omega
    by_cases hlt : (c : Int) < n
    · have hk18 : k < 18 := by
        rcases Nat.lt_or_ge k 18 with h1 | h1
        · exact h1
        · obtain rfl : k = 18 := by omega
          omega
      have HC : Hid (2 * c = 16 * 2 ^ (k + 1)) := Lib.hid (by rw [hc, Nat.pow_succ]; omega)
      have HN : Hid (clAux (f - 1) (2 * c) n = cl n) := Lib.hid (by
        have := HE.out
        obtain ⟨f', rfl⟩ : ∃ f', f = f' + 1 := ⟨f - 1, by omega⟩
        unfold clAux at this
        rw [if_pos hlt] at this
        exact this)
      have h8 : decide ((c : Int) < 8000000) = true := by simp; omega
      clear hc hp hp2
      go_wp2
      go_round
      case rel => exact ⟨f - 1, k + 1, by omega, by omega, by rw [← HC.out]; go_num, by rw [← HC.out]; exact HN⟩
      case measure => simp [intOf]; omega
    · have HN : Hid (c = cl n) := Lib.hid (by
        rw [← HE.out]
        cases f with
        | zero => rfl
        | succ f => unfold clAux; rw [if_neg hlt])
      clear hc hp hp2
      go_wp2
      go_ret
      exact ⟨ret_int (by rw [HN.out]), rfl⟩
set_option maxHeartbeats 4000000 in
set_option maxRecDepth 100000 in
theorem rooms_walk (a0 : Int) (A : Option Addr) (m cap : Nat) (K : Nat → Bool) (V : Nat → Int) (w : World) (w0 : (Lit.int .i64 a0).wf = true) (hb : BActs w A m cap K V) :
    Calls Try.prog 3 #[.int .i64 a0, .slice A m cap] w fun e w' => e = .returned (.bool true) ∧ Below w.heap.size w w' := by
  have AW := Lib.hid (awake4_any w)
  have hcap : cap ≤ 9223372036854775807 := hb.2.1
  have hlc : m ≤ cap := hb.1
  have HB := Lib.hid hb
  clear hb w0
  by_cases h60 : 60 < (m : Int)
  · go_enter Try.func3, Try.ntmps3
    go_wp2_with (go_at_call 7; refine AW.out.mono ?_; rintro e w1 ⟨rfl, h1⟩; have H1 := Lib.hid h1; clear h1)
    go_ret
    exact ⟨rfl, H1.out⟩
  by_cases hs : a0 < 0
  · go_enter Try.func3, Try.ntmps3
    go_wp2_with (first
      | (go_at_call 7; refine AW.out.mono ?_; rintro e w1 ⟨rfl, h1⟩; have H1 := Lib.hid h1; clear h1)
      | (go_at_call 8; refine (ANew_bad a0 _ (.inl hs)).mono ?_; rintro e w2 ⟨rfl, rfl⟩))
    go_ret
    exact ⟨rfl, H1.out⟩
  by_cases hs2 : 4194304 < a0
  · go_enter Try.func3, Try.ntmps3
    go_wp2_with (first
      | (go_at_call 7; refine AW.out.mono ?_; rintro e w1 ⟨rfl, h1⟩; have H1 := Lib.hid h1; clear h1)
      | (go_at_call 8; refine (ANew_bad a0 _ (.inr ⟨by omega, hs2⟩)).mono ?_; rintro e w2 ⟨rfl, rfl⟩))
    go_ret
    exact ⟨rfl, H1.out⟩
  obtain ⟨sz, rfl⟩ := Int.eq_ofNat_of_zero_le (Int.not_lt.1 hs)
  have hsz : sz ≤ 4194304 := by omega
  go_enter Try.func3, Try.ntmps3
  go_wp2_with (first
    | (go_at_call 7; refine AW.out.mono ?_; rintro e w1 ⟨rfl, h1⟩; have H1 := Lib.hid h1; clear h1)
    | (go_at_call 8; refine (ANew_ok sz _ hsz).mono ?_; rintro e w2 ⟨a, bb, rm, gm, rfl, q1, q2, q3, q4, q5, q6⟩; have HA2 := Lib.hid (ARel.new H1.out q1 q2 q3 q4 q5 q6); clear q1 q2 q3 q4 q5 q6))
  go_loopw [7, 8, 9, 10] (fun v7 v8 v9 v10 wr => ∃ (k : Nat) (L : List Rm) (d : Ad), k ≤ m ∧ v10 = .int .i64 k ∧ v8 = .int .i64 d.height ∧ v9 = .int .i64 d.live ∧ L.length ≤ k ∧ d.ops ≤ k ∧ Hid (ARel w a bb rm gm d wr) ∧ Hid (wr.ownsRow w.heap.size 33 3 v7 L.length (rows L)) ∧ Hid (RR L d) ∧ Hid (d.sz = sz)) (fun _ _ _ v10 _ => m - (intOf v10).toNat)
  case atStart => exact ⟨0, [], nuA sz, Nat.zero_le _, rfl, rfl, rfl, Nat.le_refl _, Nat.le_refl _, HA2, Lib.hid (World.ownsRow_nil _ _ _ _), Lib.hid (RR.none sz), Lib.hid rfl⟩
  case round =>
    obtain ⟨k, L, d, hkm, rfl, rfl, rfl, hLk, hops, HA, HO, HR, HZ⟩ := hrel
    by_cases hlt : k < m
    · obtain ⟨b, off, rfl, hbl, hcell⟩ := HB.out.2.2.2 (by omega)
      have hA0 : wr.cell? ⟨b, off + k * 2, none⟩ = some (.bool (K k)) := (HA.out.bel.cell (p := ⟨b, off + k * 2, none⟩) hbl).trans (hcell k hlt).1
      have hA1 : wr.cell? ⟨b, off + k * 2 + 1, none⟩ = some (.int .i64 (V k)) := (HA.out.bel.cell (p := ⟨b, off + k * 2 + 1, none⟩) hbl).trans (hcell k hlt).2
      have hHt : d.height ≤ 4194304 := by have := HA.out.are.hsz; have := HA.out.are.lim; omega
      have hL1 : -251658240 ≤ d.live := by have := HA.out.are.liv1; omega
      have hL2 : d.live ≤ 251658240 := by have := HA.out.are.liv2; omega
      have hVw := Lib.hid (HB.out.2.2.1 k)
      obtain ⟨n, en⟩ : ∃ n, n = V k := ⟨_, rfl⟩
      rw [← en] at hA1 hVw
      obtain ⟨A7, cp, rfl, hl7, hm7, hsh⟩ := own_shape HO.out
      have HSH := Lib.hid hsh
      have hm7' : cp ≤ 9223372036854775807 := hm7
      clear hcell hsh hm7 en
      cases hK : K k with
      | true =>
        rw [hK] at hA0
        clear hK
        rcases li_cases (gvF L n) L.length with ⟨e13, hno⟩ | ⟨j0, hj0, e13, hyes, _⟩
        ·
         as_aux_lemma =>
          have E13 := Lib.hid e13
          have HG := Lib.hid (Give_no a bb rm gm d n wr HA.out.are hVw.out (HR.out.no hno))
          clear e13 hno hbl
          go_wp2_with (go_at_call 9; refine HG.out.mono ?_; rintro e w3 ⟨rfl, rfl⟩)
          go_loop [13, 14] (fun v13 v14 => ∃ (j : Nat) (z : Int), j ≤ L.length ∧ v14 = .int .i64 j ∧ v13 = .int .i64 z ∧ -1 ≤ z ∧ z < 60 ∧ Hid (z = li (gvF L n) j)) (fun _ v14 => L.length - (intOf v14).toNat)
          case atStart => exact ⟨0, -1, Nat.zero_le _, rfl, rfl, by omega, by omega, Lib.hid rfl⟩
          case round =>
           as_aux_lemma =>
            obtain ⟨j, z, hj, rfl, rfl, hz1, hz2, HZ2⟩ := hrel
            by_cases hjl : j < L.length
            · obtain ⟨g, cur, rfl, _, _, hc⟩ := HSH.out (by omega)
              have c2 : wr.cell? ⟨g, j * 3 + 2, none⟩ = some (.bool L[j].tk) := hc j 2 _ (List.getElem?_eq_getElem hjl) (by omega)
              have c0 : wr.cell? ⟨g, j * 3, none⟩ = some (.int .i64 L[j].at_) := hc j 0 _ (List.getElem?_eq_getElem hjl) (by omega)
              have hgf := gvF_at (n := n) hjl
              have hli : li (gvF L n) (j + 1) = if gvF L n j then (j : Int) else li (gvF L n) j := rfl
              have hbd := (HR.out.bd HA.out (List.getElem_mem hjl)).1
              obtain ⟨x, ex⟩ : ∃ x, x = L[j] := ⟨_, rfl⟩
              rw [← ex] at c2 c0 hgf hbd
              obtain ⟨xa, xs, xt⟩ := x
              have HLI := Lib.hid hli
              have HGF := Lib.hid hgf
              clear hc ex hli hgf
              cases xt with
              | false =>
                go_wp2
                go_round
                case rel => exact ⟨j + 1, z, by omega, by go_num, rfl, hz1, hz2, Lib.hid (by rw [HLI.out, HGF.out]; exact HZ2.out)⟩
                case measure => simp [intOf]; omega
              | true =>
                by_cases hat : (xa : Int) = n
                · have hat' : ((xa : Int) == n) = true := by simpa using hat
                  have HAT := Lib.hid hat
                  clear hat
                  go_wp2
                  go_round
                  case rel => exact ⟨j + 1, (j : Int), by omega, by go_num, rfl, by omega, by omega, Lib.hid (by rw [HLI.out, HGF.out]; simp [HAT.out])⟩
                  case measure => simp [intOf]; omega
                · have hat' : ((xa : Int) == n) = false := by simpa using hat
                  have HAT := Lib.hid hat
                  clear hat
                  go_wp2
                  go_round
                  case rel => exact ⟨j + 1, z, by omega, by go_num, rfl, hz1, hz2, Lib.hid (by rw [HLI.out, HGF.out]; simp [HAT.out]; exact HZ2.out)⟩
                  case measure => simp [intOf]; omega
            · obtain rfl : j = L.length := by omega
              obtain rfl : z = -1 := HZ2.out.trans E13.out
              go_wp2
              go_roundw
              case rel => exact ⟨k + 1, L, d, by omega, by go_num, rfl, rfl, by omega, by omega, HA, HO, HR, HZ⟩
              case measure => simp [intOf]; omega
        ·
         as_aux_lemma =>
          have hm0 : L[j0] ∈ L := List.getElem_mem hj0
          have hf0 := gvF_at (n := n) hj0
          rw [hyes] at hf0
          have htk : L[j0].tk = true := by
            cases q : L[j0].tk with
            | true => rfl
            | false => rw [q] at hf0; simp at hf0
          have hat : ((L[j0].at_ : Nat) : Int) = n := by rw [htk] at hf0; simpa using hf0.symm
          have hRp : d.R L[j0].at_ = some L[j0].sz := (HR.out.R _ _).2 (by
            have : L[j0] = ⟨L[j0].at_, L[j0].sz, true⟩ := by rw [← htk]
            rw [← this]; exact hm0)
          have hRG := Lib.hid (fun v => HR.out.give (v := v) hj0 htk)
          have hbd := HR.out.bd HA.out hm0
          obtain ⟨g, cur, rfl, hBg, hgB, hc⟩ := HSH.out (by omega)
          have HC : Hid (∀ (W : World), (∀ i, W.cell? ⟨g, i, none⟩ = wr.cell? ⟨g, i, none⟩) → ∀ k j x, L[k]? = some x → j < 3 → W.cell? ⟨g, k * 3 + j, none⟩ = x.cs[j]?) := Lib.hid (fun W hW k j x hx hj => (hW _).trans (hc k j x hx hj))
          have hLj : L[j0]? = some L[j0] := List.getElem?_eq_getElem hj0
          obtain ⟨x, ex⟩ : ∃ x, x = L[j0] := ⟨_, rfl⟩
          rw [← ex] at hat hRp hRG hbd hLj
          obtain ⟨p, xs, xt⟩ := x
          have hxt : xt = true := by rw [← htk, ← ex]
          subst hxt
          simp only at hat hRp hRG hbd
          subst hat
          have hbd1 := hbd.1
          have hbd2 := hbd.2
          have HG := Lib.hid (Give_ok a bb rm gm d p xs wr HA.out.are hRp (by omega))
          have E13 := Lib.hid e13
          have HLJ := Lib.hid hLj
          clear e13 hyes hbl hm0 hf0 htk ex hc hRp hbd hLj
          go_wp2_with (go_at_call 9; refine HG.out.mono ?_; rintro e w3 ⟨v3, rfl, q1, q2, q3⟩; have HA3 := Lib.hid (HA.out.give q1 q2 q3); have HF3 : Hid (Fr (gvS a rm gm d xs) wr w3) := Lib.hid q2; clear q1 q2 q3)
          have hnS : ¬ gvS a rm gm d xs g := fun q => HA.out.are.mine33 hgB (gvS_mine HA.out.are q)
          have HO3 : Hid (w3.ownsRow w.heap.size 33 3 (.slice (some ⟨g, 0, none⟩) L.length cp) L.length (rows L)) := Lib.hid (own33_fr HO.out HF3.out (fun g' cur' hb' q => HA.out.are.mine33 hb' (gvS_mine HA.out.are q)))
          have hB3 : Blk w3 g 33 cur := hgB.fr HF3.out hnS
          have HC3 := Lib.hid (HC.out w3 (fun i => World.cell?_of_block (HF3.out.block g hgB.lt hnS)))
          have HB3 := Lib.hid hB3
          clear hnS hB3 hgB HC
          go_loop [13, 14] (fun v13 v14 => ∃ (j : Nat) (z : Int), j ≤ L.length ∧ v14 = .int .i64 j ∧ v13 = .int .i64 z ∧ -1 ≤ z ∧ z < 60 ∧ Hid (z = li (gvF L (p : Int)) j)) (fun _ v14 => L.length - (intOf v14).toNat)
          case atStart => exact ⟨0, -1, Nat.zero_le _, rfl, rfl, by omega, by omega, Lib.hid rfl⟩
          case round =>
           as_aux_lemma =>
            obtain ⟨j, z, hj, rfl, rfl, hz1, hz2, HZ2⟩ := hrel
            by_cases hjl : j < L.length
            · have c2 : w3.cell? ⟨g, j * 3 + 2, none⟩ = some (.bool L[j].tk) := HC3.out j 2 _ (List.getElem?_eq_getElem hjl) (by omega)
              have c0 : w3.cell? ⟨g, j * 3, none⟩ = some (.int .i64 L[j].at_) := HC3.out j 0 _ (List.getElem?_eq_getElem hjl) (by omega)
              have hgf := gvF_at (n := (p : Int)) hjl
              have hli : li (gvF L (p : Int)) (j + 1) = if gvF L (p : Int) j then (j : Int) else li (gvF L (p : Int)) j := rfl
              have hbd := (HR.out.bd HA.out (List.getElem_mem hjl)).1
              obtain ⟨x, ex⟩ : ∃ x, x = L[j] := ⟨_, rfl⟩
              rw [← ex] at c2 c0 hgf hbd
              obtain ⟨xa, xz, xt⟩ := x
              have HLI := Lib.hid hli
              have HGF := Lib.hid hgf
              clear ex hli hgf
              cases xt with
              | false =>
                go_wp2
                go_round
                case rel => exact ⟨j + 1, z, by omega, by go_num, rfl, hz1, hz2, Lib.hid (by rw [HLI.out, HGF.out]; exact HZ2.out)⟩
                case measure => simp [intOf]; omega
              | true =>
                by_cases hat : (xa : Int) = p
                · have hat' : ((xa : Int) == (p : Int)) = true := by simpa using hat
                  have HAT := Lib.hid hat
                  clear hat
                  go_wp2
                  go_round
                  case rel => exact ⟨j + 1, (j : Int), by omega, by go_num, rfl, by omega, by omega, Lib.hid (by rw [HLI.out, HGF.out]; simp [HAT.out])⟩
                  case measure => simp [intOf]; omega
                · have hat' : ((xa : Int) == (p : Int)) = false := by simpa using hat
                  have HAT := Lib.hid hat
                  clear hat
                  go_wp2
                  go_round
                  case rel => exact ⟨j + 1, z, by omega, by go_num, rfl, hz1, hz2, Lib.hid (by rw [HLI.out, HGF.out]; simp [HAT.out]; exact HZ2.out)⟩
                  case measure => simp [intOf]; omega
            · obtain rfl : j = L.length := by omega
              obtain rfl : z = (j0 : Int) := HZ2.out.trans E13.out
              have c0 : w3.cell? ⟨g, j0 * 3, none⟩ = some (.int .i64 p) := HC3.out j0 0 _ HLJ.out (by omega)
              have c1 : w3.cell? ⟨g, j0 * 3 + 1, none⟩ = some (.int .i64 xs) := HC3.out j0 1 _ HLJ.out (by omega)
              have c2 : w3.cell? ⟨g, j0 * 3 + 2, none⟩ = some (.bool true) := HC3.out j0 2 _ HLJ.out (by omega)
              go_wp2
              have hB4 : Blk (w3.alloc (Obj.cells #[Value.int .i64 (p : Int), Value.int .i64 (xs : Int), Value.bool false] 33)) w3.heap.size 33 #[Value.int .i64 (p : Int), Value.int .i64 (xs : Int), Value.bool false] := Blk.new w3 33 _
              have hO4 := HO3.out.alloc (Obj.cells #[Value.int .i64 (p : Int), Value.int .i64 (xs : Int), Value.bool false] 33)
              have hf34 : Fr (fun _ => False) w3 (w3.alloc (Obj.cells #[Value.int .i64 (p : Int), Value.int .i64 (xs : Int), Value.bool false] 33)) := (Fr.refl _ _).alloc _
              have hg4 := HB3.out.fr hf34 (fun q => q)
              obtain ⟨X, eX⟩ : ∃ X, X = w3.heap.size := ⟨_, rfl⟩
              obtain ⟨w4, ew4⟩ : ∃ w4, w4 = w3.alloc (Obj.cells #[Value.int .i64 (p : Int), Value.int .i64 (xs : Int), Value.bool false] 33) := ⟨_, rfl⟩
              rw [← ew4] at hB4 hO4 hf34 hg4 ⊢
              rw [← eX] at hB4 ⊢
              have HF34 := Lib.hid hf34
              have HX4 := Lib.hid hB4
              have hXl : Hid (X < w4.heap.size) := Lib.hid hB4.lt
              have hRW : Hid (∀ W, Fr (fun _ => False) w4 W → ∀ j u, (rows L)[j]? = some u → W.cell? ⟨g, j, none⟩ = some u) := Lib.hid (by
                intro W hW j u hu
                obtain ⟨g', cap', cur', e', _, hb', _, _, hh⟩ := own_rows hO4 (by omega)
                injection e' with e1 e2
                injection e1 with e1
                injection e1 with e1
                subst e1
                have hlt : j < L.length * 3 := by rw [← rows_len]; exact (List.getElem?_eq_some_iff.1 hu).1
                obtain ⟨q, r, hq, hr, rfl⟩ : ∃ q r, q < L.length ∧ r < 3 ∧ j = q * 3 + r := ⟨j / 3, j % 3, by omega, by omega, by omega⟩
                have := hh q r L[q] (List.getElem?_eq_getElem hq) hr
                rw [World.cell?_of_block (hW.block g hb'.lt (fun q => q)), this, ← rows_get L q r L[q] (List.getElem?_eq_getElem hq) hr]
                exact hu)
              have hs1 : ∀ W : World, (Instr.slice 28 (.slice (some ⟨g, 0, none⟩) L.length cp) none (some (.int .i64 (j0 : Int))) none).run Try.prog W = .ok (.slice (some ⟨g, 0, none⟩) j0 cp) W := fun W => cutH_run g L.length cp j0 (by omega) W
              have hs2 : ∀ W : World, (Instr.slice 28 (.slice (some ⟨g, 0, none⟩) L.length cp) (some (.int .i64 ((j0 : Int) + 1))) none none).run Try.prog W = .ok (.slice (some (cutL g cp (j0 + 1))) (L.length - (j0 + 1)) (cp - (j0 + 1))) W := fun W => cutL_run g L.length cp (j0 + 1) _ (by omega) (by omega) W
              have hwr : IntKind.i64.wrap ((j0 : Int) + 1) = (j0 : Int) + 1 := by rw [IntKind.wrap_i64]; omega
              have hif : (if cp = j0 + 1 then some (⟨g, 0, none⟩ : Addr) else some ⟨g, (j0 + 1) * 3, none⟩) = some (cutL g cp (j0 + 1)) := by unfold cutL; split <;> rfl
              have HN1 : Hid (∀ W, Fr (fun _ => False) w4 W → ∀ j u, (rows (L.take j0))[j]? = some u → W.cell? ((⟨g, 0, none⟩ : Addr).add j) = some u) := Lib.hid (by
                intro W hW j u hu
                rw [rows_take] at hu
                have hlt : j < j0 * 3 := by
                  have := (List.getElem?_eq_some_iff.1 hu).1
                  rw [List.length_take] at this; omega
                rw [List.getElem?_take_of_lt hlt] at hu
                rw [addr_add, Nat.zero_add]
                exact hRW.out W hW j u hu)
              have HN2 : Hid (∀ W, Fr (fun _ => False) w4 W → ∀ j u, (rows (L.drop (j0 + 1)))[j]? = some u → W.cell? ((cutL g cp (j0 + 1)).add j) = some u) := Lib.hid (by
                intro W hW j u hu
                rw [rows_drop L _ (by omega), List.getElem?_drop] at hu
                have hlt : (j0 + 1) * 3 + j < L.length * 3 := by
                  have := (List.getElem?_eq_some_iff.1 hu).1
                  rw [rows_len] at this; omega
                unfold cutL
                rw [if_neg (by omega), addr_add]
                exact hRW.out W hW _ u hu)
              have HL1 : Hid ((rows (L.take j0)).length = j0 * 3) := Lib.hid (by rw [rows_len, List.length_take]; omega)
              have HL2 : Hid ((rows (L.drop (j0 + 1))).length = (L.length - (j0 + 1)) * 3) := Lib.hid (by rw [rows_len, List.length_drop])
              have HO1 := Lib.hid (rows_one (L.take j0))
              have HO2 := Lib.hid (rows_one (L.drop (j0 + 1)))
              have HO0 := Lib.hid (rows_one [⟨p, xs, false⟩])
              have HEQ : Hid (([] ++ rows (L.take j0)) ++ rows (L.drop (j0 + 1)) ++ Rm.cs ⟨p, xs, false⟩ = rows (gvL L j0 ⟨p, xs, true⟩)) := Lib.hid (by
                unfold gvL
                rw [rows_app, rows_app]
                simp [rows])
              have HLN : Hid ((gvL L j0 ⟨p, xs, true⟩).length = L.length) := Lib.hid (by unfold gvL; simp; omega)
              obtain ⟨R1, eR1⟩ : ∃ R, R = rows (L.take j0) := ⟨_, rfl⟩
              obtain ⟨R2, eR2⟩ : ∃ R, R = rows (L.drop (j0 + 1)) := ⟨_, rfl⟩
              rw [← eR1] at HN1 HL1 HO1 HEQ
              rw [← eR2] at HN2 HL2 HO2 HEQ
              have HF0 := Lib.hid (Kp.start HX4.out)
              have c0x : w4.cell? ⟨X, 0, none⟩ = some (.int .i64 (p : Int)) := HX4.out.cell 0
              clear hB4 hO4 hf34 hg4 eX ew4 hRW c0 c1 c2 c0x eR1 eR2
              refine wp_region_held_drew (S := Kp w4 X p xs) (by kernel_rfl) HF0.out (fun hHeld => ?_)
              refine wpAnyH_take (i := 1) (oi := ?oi_1) (v := ?_) ?hi_1 (by kernel_rfl) ?hf_1 (by kernel_rfl) ?hQ_1 ?hy_1 (by assumption) ?_
              case hi_1 => simp only [List.getElem?_toArray, List.getElem?_cons_zero, List.getElem?_cons_succ]; rfl
              case hf_1 => kernel_rfl
              case hQ_1 => exact fun _ _ _ h => h
              case hy_1 =>
                refine Or.inl ⟨by rfl, ?_⟩
                intro W hSw
                obtain ⟨q0, q1, q2, q3⟩ := hSw
                go_simp
                try with_reducible rfl
              try simp only [Act.put, List.setIfInBounds_toArray, List.set_cons_zero, List.set_cons_succ]
              refine wpAnyH_take (i := 2) (oi := ?oi_2) (v := ?_) ?hi_2 (by kernel_rfl) ?hf_2 (by kernel_rfl) ?hQ_2 ?hy_2 (by assumption) ?_
              case hi_2 => simp only [List.getElem?_toArray, List.getElem?_cons_zero, List.getElem?_cons_succ]; rfl
              case hf_2 => kernel_rfl
              case hQ_2 => exact fun _ _ _ h => h
              case hy_2 =>
                refine Or.inl ⟨by rfl, ?_⟩
                intro W hSw
                obtain ⟨q0, q1, q2, q3⟩ := hSw
                go_simp
                try with_reducible rfl
              try simp only [Act.put, List.setIfInBounds_toArray, List.set_cons_zero, List.set_cons_succ]
              refine wpAnyH_take (i := 3) (oi := ?oi_3) (v := ?_) ?hi_3 (by kernel_rfl) ?hf_3 (by kernel_rfl) ?hQ_3 ?hy_3 (by assumption) ?_
              case hi_3 => simp only [List.getElem?_toArray, List.getElem?_cons_zero, List.getElem?_cons_succ]; rfl
              case hf_3 => kernel_rfl
              case hQ_3 => exact fun _ _ _ h => h
              case hy_3 =>
                refine Or.inl ⟨by rfl, ?_⟩
                intro W hSw
                obtain ⟨q0, q1, q2, q3⟩ := hSw
                go_simp
                try with_reducible rfl
              try simp only [Act.put, List.setIfInBounds_toArray, List.set_cons_zero, List.set_cons_succ]
              refine wpAnyH_take (i := 5) (oi := ?oi_4) (v := ?_) ?hi_4 (by kernel_rfl) ?hf_4 (by kernel_rfl) ?hQ_4 ?hy_4 (by assumption) ?_
              case hi_4 => simp only [List.getElem?_toArray, List.getElem?_cons_zero, List.getElem?_cons_succ]; rfl
              case hf_4 => kernel_rfl
              case hQ_4 => exact fun _ _ _ h => h
              case hy_4 =>
                refine Or.inl ⟨by rfl, ?_⟩
                intro W hSw
                obtain ⟨q0, q1, q2, q3⟩ := hSw
                go_simp
                try with_reducible rfl
              try simp only [Act.put, List.setIfInBounds_toArray, List.set_cons_zero, List.set_cons_succ]
              refine wpAnyH_take (i := 6) (oi := ?oi_5) (v := ?_) ?hi_5 (by kernel_rfl) ?hf_5 (by kernel_rfl) ?hQ_5 ?hy_5 (by assumption) ?_
              case hi_5 => simp only [List.getElem?_toArray, List.getElem?_cons_zero, List.getElem?_cons_succ]; rfl
              case hf_5 => kernel_rfl
              case hQ_5 => exact fun _ _ _ h => h
              case hy_5 =>
                refine Or.inl ⟨by rfl, ?_⟩
                intro W hSw
                obtain ⟨q0, q1, q2, q3⟩ := hSw
                go_simp
                try with_reducible rfl
              try simp only [Act.put, List.setIfInBounds_toArray, List.set_cons_zero, List.set_cons_succ]
              refine wpAnyH_take (i := 7) (oi := ?oi_6) (v := ?_) ?hi_6 (by kernel_rfl) ?hf_6 (by kernel_rfl) ?hQ_6 ?hy_6 (by assumption) ?_
              case hi_6 => simp only [List.getElem?_toArray, List.getElem?_cons_zero, List.getElem?_cons_succ]; rfl
              case hf_6 => kernel_rfl
              case hQ_6 => exact fun _ _ _ h => h
              case hy_6 =>
                refine Or.inl ⟨by rfl, ?_⟩
                intro W hSw
                obtain ⟨q0, q1, q2, q3⟩ := hSw
                go_simp
                try with_reducible rfl
              try simp only [Act.put, List.setIfInBounds_toArray, List.set_cons_zero, List.set_cons_succ]
              refine wpAnyH_take (i := 8) (oi := ?oi_7) (v := ?_) ?hi_7 (by kernel_rfl) ?hf_7 (by kernel_rfl) ?hQ_7 ?hy_7 (by assumption) ?_
              case hi_7 => simp only [List.getElem?_toArray, List.getElem?_cons_zero, List.getElem?_cons_succ]; rfl
              case hf_7 => kernel_rfl
              case hQ_7 => exact fun _ _ _ h => h
              case hy_7 =>
                refine Or.inl ⟨by rfl, ?_⟩
                intro W hSw
                obtain ⟨q0, q1, q2, q3⟩ := hSw
                go_simp
                try with_reducible rfl
              try simp only [Act.put, List.setIfInBounds_toArray, List.set_cons_zero, List.set_cons_succ]
              try rw [hif]
              clear hwr hif hs1 hs2
              refine wpAnyH_take (i := 10) (oi := ?oi_8) (v := ?_) ?hi_8 (by kernel_rfl) ?hf_8 (by kernel_rfl) ?hQ_8 ?hy_8 (by assumption) ?_
              case hi_8 => simp only [List.getElem?_toArray, List.getElem?_cons_zero, List.getElem?_cons_succ]; rfl
              case hf_8 => kernel_rfl
              case hQ_8 => exact fun _ _ _ h => h
              case hy_8 =>
                refine Or.inl ⟨by rfl, ?_⟩
                intro W hSw
                obtain ⟨q0, q1, q2, q3⟩ := hSw
                go_simp
                try with_reducible rfl
              try simp only [Act.put, List.setIfInBounds_toArray, List.set_cons_zero, List.set_cons_succ]
              refine wpAnyH_ready (rs := [0, 11]) (by kernel_rfl) (by simp) ?_
              refine AllReadyH.cons (o := ?oi_9) ?hi_9 (fun K hK => ?_) ?more_9
              case hi_9 => simp only [List.getElem?_toArray, List.getElem?_cons_zero, List.getElem?_cons_succ]; rfl
              rotate_left
              case more_9 =>
                refine AllReadyH.cons (o := ?oi_10) ?hi_10 (fun K hK => ?_) AllReadyH.nil
                case hi_10 => simp only [List.getElem?_toArray, List.getElem?_cons_zero, List.getElem?_cons_succ]; rfl
                go_simp
                refine hK.out _ _ (hHeld.alloc hXl.out _) (fun hHeld => ?_)
                clear hK K
                try simp only [Act.put, List.setIfInBounds_toArray, List.set_cons_zero, List.set_cons_succ]
                have hYb : Blk (w4.alloc (Obj.cells #[Value.int .i64 (p : Int), Value.int .i64 (xs : Int), Value.bool false] 33)).drew w4.heap.size 33 #[Value.int .i64 (p : Int), Value.int .i64 (xs : Int), Value.bool false] := Blk.new w4 33 _
                obtain ⟨Y, eY⟩ : ∃ Y, Y = w4.heap.size := ⟨_, rfl⟩
                rw [← eY] at hYb ⊢
                generalize (w4.alloc (Obj.cells #[Value.int .i64 (p : Int), Value.int .i64 (xs : Int), Value.bool false] 33)).drew = Wz at hYb hHeld ⊢
                have HYb := Lib.hid hYb
                have HZs : Hid (w4.heap.size ≤ Wz.heap.size) := Lib.hid hHeld.1.size
                clear hYb eY
                refine wpAnyH_ready (rs := [0]) (by kernel_rfl) (by simp) ?_
                refine AllReadyH.cons (o := ?oi_11) ?hi_11 (fun K hK => ?_) AllReadyH.nil
                case hi_11 => simp only [List.getElem?_toArray, List.getElem?_cons_zero, List.getElem?_cons_succ]; rfl
                go_simp
                refine hK.out _ _ (hHeld.alloc hXl.out _) (fun hHeld => ?_)
                clear hK K
                try simp only [Act.put, List.setIfInBounds_toArray, List.set_cons_zero, List.set_cons_succ]
                have own0 : Hid ((Wz.alloc (Obj.cells #[] 33)).ownsRow w4.heap.size 33 3 (.slice (some ⟨Wz.heap.size, 0, none⟩) 0 0) 0 []) := Lib.hid (World.ownsRow_lit Wz #[] 0 HZs.out (Nat.zero_le _) rfl)
                have hY0 : Hid (YP (Wz.alloc (Obj.cells #[] 33)) Y p xs (.slice (some ⟨Wz.heap.size, 0, none⟩) 0 0)) := Lib.hid ⟨HYb.out.alloc _, fun k hk => by
                  simp only [Value.ownBlock, Option.some.injEq] at hk
                  have := HYb.out.lt
                  omega⟩
                obtain ⟨Z, eZ⟩ : ∃ Z, Z = Wz.heap.size := ⟨_, rfl⟩
                rw [← eZ] at own0 hY0 ⊢
                generalize Wz.alloc (Obj.cells #[] 33) = Wa at own0 hY0 hHeld ⊢
                clear eZ HYb HZs
                refine wpAnyH_ready (rs := [4]) (by kernel_rfl) (by simp) ?_
                refine AllReadyH.cons (o := ?oi_12) ?hi_12 (fun K hK => ?_) AllReadyH.nil
                case hi_12 => simp only [List.getElem?_toArray, List.getElem?_cons_zero, List.getElem?_cons_succ]; rfl
                refine step_append_33 rfl (.tmp 113) (.tmp 116) rfl w4.heap.size 0 (.slice (some ⟨Z, 0, none⟩) 0 0) _ rfl own0.out ⟨g, 0, none⟩ j0 cp R1 rfl HL1.out (HN1.out _ hHeld.1) HO1.out (by omega) hHeld.1.size ?_
                intro u1 Wb A10
                have A1 := Lib.hid A10
                have hK2 : Kp w4 X p xs Wb := hHeld.fr hXl.out A1.out.2.1 (fun k q => (own_ge own0.out k q).1)
                refine hK.out _ _ hK2 (fun hHeld => ?_)
                clear hK K hK2 A10
                try simp only [Act.put, List.setIfInBounds_toArray, List.set_cons_zero, List.set_cons_succ]
                have hY1 := Lib.hid (hY0.out.app A1.out)
                refine wpAnyH_ready (rs := [9]) (by kernel_rfl) (by simp) ?_
                refine AllReadyH.cons (o := ?oi_13) ?hi_13 (fun K hK => ?_) AllReadyH.nil
                case hi_13 => simp only [List.getElem?_toArray, List.getElem?_cons_zero, List.getElem?_cons_succ]; rfl
                refine step_append_33 rfl (.tmp 117) (.tmp 121) rfl w4.heap.size (0 + j0) u1 _ rfl A1.out.1 (cutL g cp (j0 + 1)) (L.length - (j0 + 1)) (cp - (j0 + 1)) R2 rfl HL2.out (HN2.out _ hHeld.1) HO2.out (by omega) hHeld.1.size ?_
                intro u2 Wc A20
                have A2 := Lib.hid A20
                have hK2 : Kp w4 X p xs Wc := hHeld.fr hXl.out A2.out.2.1 (fun k q => (own_ge A1.out.1 k q).1)
                refine hK.out _ _ hK2 (fun hHeld => ?_)
                clear hK K hK2 A20
                try simp only [Act.put, List.setIfInBounds_toArray, List.set_cons_zero, List.set_cons_succ]
                have hY2 := Lib.hid (hY1.out.app A2.out)
                refine wpAnyH_ready (rs := [12]) (by kernel_rfl) (by simp) ?_
                refine AllReadyH.cons (o := ?oi_14) ?hi_14 (fun K hK => ?_) AllReadyH.nil
                case hi_14 => simp only [List.getElem?_toArray, List.getElem?_cons_zero, List.getElem?_cons_succ]; rfl
                refine step_append_33 rfl (.tmp 122) (.tmp 124) rfl w4.heap.size (0 + j0 + (L.length - (j0 + 1))) u2 _ rfl A2.out.1 ⟨Y, 0, none⟩ 1 1 (Rm.cs ⟨p, xs, false⟩) rfl rfl hY2.out.cells HO0.out (by omega) hHeld.1.size ?_
                intro u3 We A30
                have A3 := Lib.hid A30
                have hK2 : Kp w4 X p xs We := hHeld.fr hXl.out A3.out.2.1 (fun k q => (own_ge A2.out.1 k q).1)
                refine hK.out _ _ hK2 (fun hHeld => ?_)
                clear hK K hK2 A30
                try simp only [Act.put, List.setIfInBounds_toArray, List.set_cons_zero, List.set_cons_succ]
                refine wpAnyH_take (i := 13) (oi := ?oi_15) (v := ?_) ?hi_15 (by kernel_rfl) ?hf_15 (by kernel_rfl) ?hQ_15 ?hy_15 (by assumption) ?_
                case hi_15 => simp only [List.getElem?_toArray, List.getElem?_cons_zero, List.getElem?_cons_succ]; rfl
                case hf_15 => kernel_rfl
                case hQ_15 => exact fun _ _ _ h => h
                case hy_15 =>
                  refine Or.inl ⟨by rfl, ?_⟩
                  intro W hSw
                  obtain ⟨q0, q1, q2, q3⟩ := hSw
                  go_simp
                  try with_reducible rfl
                try simp only [Act.put, List.setIfInBounds_toArray, List.set_cons_zero, List.set_cons_succ]
                refine wpAnyH_done (by kernel_rfl) ?_ _
                as_aux_lemma =>
                 have hA3' := A3.out.1
                 rw [HEQ.out, show 0 + j0 + (L.length - (j0 + 1)) + 1 = (gvL L j0 ⟨p, xs, true⟩).length from by rw [HLN.out]; omega] at hA3'
                 have HOF : Hid (We.ownsRow w.heap.size 33 3 u3 (gvL L j0 ⟨p, xs, true⟩).length (rows (gvL L j0 ⟨p, xs, true⟩))) := Lib.hid (own_base hA3' (by have := HA3.out.bel.size; have := HF34.out.size; omega))
                 have HAF : Hid (ARel w a bb rm gm (d.give p xs v3) We) := Lib.hid (HA3.out.mv (below_of_fr (HF34.out.trans hHeld.1)))
                 have HRF := Lib.hid (hRG.out v3)
                 clear hA3' hHeld
                 go_wp2
                 go_roundw
                 case rel => exact ⟨k + 1, gvL L j0 ⟨p, xs, true⟩, d.give p xs v3, by omega, by go_num, rfl, rfl, by rw [HLN.out]; omega, by show d.ops + 1 ≤ k + 1; omega, HAF, HOF, HRF, HZ⟩
                 case measure => simp [intOf]; omega
              go_simp
              refine hK.out _ _ (hHeld.alloc hXl.out _) (fun hHeld => ?_)
              clear hK K
              try simp only [Act.put, List.setIfInBounds_toArray, List.set_cons_zero, List.set_cons_succ]
              have own0 : Hid ((w4.alloc (.cells #[] 33)).drew.ownsRow w4.heap.size 33 3 (.slice (some ⟨w4.heap.size, 0, none⟩) 0 0) 0 []) := Lib.hid (World.ownsRow_lit w4 #[] 0 (Nat.le_refl _) (Nat.zero_le _) rfl)
              generalize (w4.alloc (Obj.cells #[] 33)).drew = Wa at own0 hHeld ⊢
              refine wpAnyH_ready (rs := [4, 11]) (by kernel_rfl) (by simp) ?_
              refine AllReadyH.cons (o := ?oi_16) ?hi_16 (fun K hK => ?_) ?more_16
              case hi_16 => simp only [List.getElem?_toArray, List.getElem?_cons_zero, List.getElem?_cons_succ]; rfl
              rotate_left
              case more_16 =>
                refine AllReadyH.cons (o := ?oi_17) ?hi_17 (fun K hK => ?_) AllReadyH.nil
                case hi_17 => simp only [List.getElem?_toArray, List.getElem?_cons_zero, List.getElem?_cons_succ]; rfl
                go_simp
                refine hK.out _ _ (hHeld.alloc hXl.out _) (fun hHeld => ?_)
                clear hK K
                try simp only [Act.put, List.setIfInBounds_toArray, List.set_cons_zero, List.set_cons_succ]
                have hY0 := Lib.hid (YP.new (p := p) (xs := xs) own0.out)
                have own0' := Lib.hid (World.ownsRow.alloc own0.out (Obj.cells #[Value.int .i64 (p : Int), Value.int .i64 (xs : Int), Value.bool false] 33))
                obtain ⟨Y, eY⟩ : ∃ Y, Y = Wa.heap.size := ⟨_, rfl⟩
                rw [← eY] at hY0 ⊢
                generalize Wa.alloc (Obj.cells #[Value.int .i64 (p : Int), Value.int .i64 (xs : Int), Value.bool false] 33) = Way at hY0 own0' hHeld ⊢
                clear eY
                have own0 := own0'
                refine wpAnyH_ready (rs := [4]) (by kernel_rfl) (by simp) ?_
                refine AllReadyH.cons (o := ?oi_18) ?hi_18 (fun K hK => ?_) AllReadyH.nil
                case hi_18 => simp only [List.getElem?_toArray, List.getElem?_cons_zero, List.getElem?_cons_succ]; rfl
                refine step_append_33 rfl (.tmp 113) (.tmp 116) rfl w4.heap.size 0 (.slice (some ⟨w4.heap.size, 0, none⟩) 0 0) _ rfl own0.out ⟨g, 0, none⟩ j0 cp R1 rfl HL1.out (HN1.out _ hHeld.1) HO1.out (by omega) hHeld.1.size ?_
                intro u1 Wb A10
                have A1 := Lib.hid A10
                have hK2 : Kp w4 X p xs Wb := hHeld.fr hXl.out A1.out.2.1 (fun k q => (own_ge own0.out k q).1)
                refine hK.out _ _ hK2 (fun hHeld => ?_)
                clear hK K hK2 A10
                try simp only [Act.put, List.setIfInBounds_toArray, List.set_cons_zero, List.set_cons_succ]
                have hY1 := Lib.hid (hY0.out.app A1.out)
                refine wpAnyH_ready (rs := [9]) (by kernel_rfl) (by simp) ?_
                refine AllReadyH.cons (o := ?oi_19) ?hi_19 (fun K hK => ?_) AllReadyH.nil
                case hi_19 => simp only [List.getElem?_toArray, List.getElem?_cons_zero, List.getElem?_cons_succ]; rfl
                refine step_append_33 rfl (.tmp 117) (.tmp 121) rfl w4.heap.size (0 + j0) u1 _ rfl A1.out.1 (cutL g cp (j0 + 1)) (L.length - (j0 + 1)) (cp - (j0 + 1)) R2 rfl HL2.out (HN2.out _ hHeld.1) HO2.out (by omega) hHeld.1.size ?_
                intro u2 Wc A20
                have A2 := Lib.hid A20
                have hK2 : Kp w4 X p xs Wc := hHeld.fr hXl.out A2.out.2.1 (fun k q => (own_ge A1.out.1 k q).1)
                refine hK.out _ _ hK2 (fun hHeld => ?_)
                clear hK K hK2 A20
                try simp only [Act.put, List.setIfInBounds_toArray, List.set_cons_zero, List.set_cons_succ]
                have hY2 := Lib.hid (hY1.out.app A2.out)
                refine wpAnyH_ready (rs := [12]) (by kernel_rfl) (by simp) ?_
                refine AllReadyH.cons (o := ?oi_20) ?hi_20 (fun K hK => ?_) AllReadyH.nil
                case hi_20 => simp only [List.getElem?_toArray, List.getElem?_cons_zero, List.getElem?_cons_succ]; rfl
                refine step_append_33 rfl (.tmp 122) (.tmp 124) rfl w4.heap.size (0 + j0 + (L.length - (j0 + 1))) u2 _ rfl A2.out.1 ⟨Y, 0, none⟩ 1 1 (Rm.cs ⟨p, xs, false⟩) rfl rfl hY2.out.cells HO0.out (by omega) hHeld.1.size ?_
                intro u3 We A30
                have A3 := Lib.hid A30
                have hK2 : Kp w4 X p xs We := hHeld.fr hXl.out A3.out.2.1 (fun k q => (own_ge A2.out.1 k q).1)
                refine hK.out _ _ hK2 (fun hHeld => ?_)
                clear hK K hK2 A30
                try simp only [Act.put, List.setIfInBounds_toArray, List.set_cons_zero, List.set_cons_succ]
                refine wpAnyH_take (i := 13) (oi := ?oi_21) (v := ?_) ?hi_21 (by kernel_rfl) ?hf_21 (by kernel_rfl) ?hQ_21 ?hy_21 (by assumption) ?_
                case hi_21 => simp only [List.getElem?_toArray, List.getElem?_cons_zero, List.getElem?_cons_succ]; rfl
                case hf_21 => kernel_rfl
                case hQ_21 => exact fun _ _ _ h => h
                case hy_21 =>
                  refine Or.inl ⟨by rfl, ?_⟩
                  intro W hSw
                  obtain ⟨q0, q1, q2, q3⟩ := hSw
                  go_simp
                  try with_reducible rfl
                try simp only [Act.put, List.setIfInBounds_toArray, List.set_cons_zero, List.set_cons_succ]
                refine wpAnyH_done (by kernel_rfl) ?_ _
                as_aux_lemma =>
                 have hA3' := A3.out.1
                 rw [HEQ.out, show 0 + j0 + (L.length - (j0 + 1)) + 1 = (gvL L j0 ⟨p, xs, true⟩).length from by rw [HLN.out]; omega] at hA3'
                 have HOF : Hid (We.ownsRow w.heap.size 33 3 u3 (gvL L j0 ⟨p, xs, true⟩).length (rows (gvL L j0 ⟨p, xs, true⟩))) := Lib.hid (own_base hA3' (by have := HA3.out.bel.size; have := HF34.out.size; omega))
                 have HAF : Hid (ARel w a bb rm gm (d.give p xs v3) We) := Lib.hid (HA3.out.mv (below_of_fr (HF34.out.trans hHeld.1)))
                 have HRF := Lib.hid (hRG.out v3)
                 clear hA3' hHeld
                 go_wp2
                 go_roundw
                 case rel => exact ⟨k + 1, gvL L j0 ⟨p, xs, true⟩, d.give p xs v3, by omega, by go_num, rfl, rfl, by rw [HLN.out]; omega, by show d.ops + 1 ≤ k + 1; omega, HAF, HOF, HRF, HZ⟩
                 case measure => simp [intOf]; omega
              refine step_append_33 rfl (.tmp 113) (.tmp 116) rfl w4.heap.size 0 (.slice (some ⟨w4.heap.size, 0, none⟩) 0 0) _ rfl own0.out ⟨g, 0, none⟩ j0 cp R1 rfl HL1.out (HN1.out _ hHeld.1) HO1.out (by omega) hHeld.1.size ?_
              intro u1 Wb A10
              have A1 := Lib.hid A10
              have hK2 : Kp w4 X p xs Wb := hHeld.fr hXl.out A1.out.2.1 (fun k q => (own_ge own0.out k q).1)
              refine hK.out _ _ hK2 (fun hHeld => ?_)
              clear hK K hK2 A10
              try simp only [Act.put, List.setIfInBounds_toArray, List.set_cons_zero, List.set_cons_succ]
              refine wpAnyH_ready (rs := [9, 11]) (by kernel_rfl) (by simp) ?_
              refine AllReadyH.cons (o := ?oi_22) ?hi_22 (fun K hK => ?_) ?more_22
              case hi_22 => simp only [List.getElem?_toArray, List.getElem?_cons_zero, List.getElem?_cons_succ]; rfl
              rotate_left
              case more_22 =>
                refine AllReadyH.cons (o := ?oi_23) ?hi_23 (fun K hK => ?_) AllReadyH.nil
                case hi_23 => simp only [List.getElem?_toArray, List.getElem?_cons_zero, List.getElem?_cons_succ]; rfl
                go_simp
                refine hK.out _ _ (hHeld.alloc hXl.out _) (fun hHeld => ?_)
                clear hK K
                try simp only [Act.put, List.setIfInBounds_toArray, List.set_cons_zero, List.set_cons_succ]
                have hY1 := Lib.hid (YP.new (p := p) (xs := xs) A1.out.1)
                have own1 := Lib.hid (World.ownsRow.alloc A1.out.1 (Obj.cells #[Value.int .i64 (p : Int), Value.int .i64 (xs : Int), Value.bool false] 33))
                obtain ⟨Y, eY⟩ : ∃ Y, Y = Wb.heap.size := ⟨_, rfl⟩
                rw [← eY] at hY1 ⊢
                generalize Wb.alloc (Obj.cells #[Value.int .i64 (p : Int), Value.int .i64 (xs : Int), Value.bool false] 33) = Wby at hY1 own1 hHeld ⊢
                clear eY
                refine wpAnyH_ready (rs := [9]) (by kernel_rfl) (by simp) ?_
                refine AllReadyH.cons (o := ?oi_24) ?hi_24 (fun K hK => ?_) AllReadyH.nil
                case hi_24 => simp only [List.getElem?_toArray, List.getElem?_cons_zero, List.getElem?_cons_succ]; rfl
                refine step_append_33 rfl (.tmp 117) (.tmp 121) rfl w4.heap.size (0 + j0) u1 _ rfl own1.out (cutL g cp (j0 + 1)) (L.length - (j0 + 1)) (cp - (j0 + 1)) R2 rfl HL2.out (HN2.out _ hHeld.1) HO2.out (by omega) hHeld.1.size ?_
                intro u2 Wc A20
                have A2 := Lib.hid A20
                have hK2 : Kp w4 X p xs Wc := hHeld.fr hXl.out A2.out.2.1 (fun k q => (own_ge own1.out k q).1)
                refine hK.out _ _ hK2 (fun hHeld => ?_)
                clear hK K hK2 A20
                try simp only [Act.put, List.setIfInBounds_toArray, List.set_cons_zero, List.set_cons_succ]
                have hY2 := Lib.hid (hY1.out.app A2.out)
                refine wpAnyH_ready (rs := [12]) (by kernel_rfl) (by simp) ?_
                refine AllReadyH.cons (o := ?oi_25) ?hi_25 (fun K hK => ?_) AllReadyH.nil
                case hi_25 => simp only [List.getElem?_toArray, List.getElem?_cons_zero, List.getElem?_cons_succ]; rfl
                refine step_append_33 rfl (.tmp 122) (.tmp 124) rfl w4.heap.size (0 + j0 + (L.length - (j0 + 1))) u2 _ rfl A2.out.1 ⟨Y, 0, none⟩ 1 1 (Rm.cs ⟨p, xs, false⟩) rfl rfl hY2.out.cells HO0.out (by omega) hHeld.1.size ?_
                intro u3 We A30
                have A3 := Lib.hid A30
                have hK2 : Kp w4 X p xs We := hHeld.fr hXl.out A3.out.2.1 (fun k q => (own_ge A2.out.1 k q).1)
                refine hK.out _ _ hK2 (fun hHeld => ?_)
                clear hK K hK2 A30
                try simp only [Act.put, List.setIfInBounds_toArray, List.set_cons_zero, List.set_cons_succ]
                refine wpAnyH_take (i := 13) (oi := ?oi_26) (v := ?_) ?hi_26 (by kernel_rfl) ?hf_26 (by kernel_rfl) ?hQ_26 ?hy_26 (by assumption) ?_
                case hi_26 => simp only [List.getElem?_toArray, List.getElem?_cons_zero, List.getElem?_cons_succ]; rfl
                case hf_26 => kernel_rfl
                case hQ_26 => exact fun _ _ _ h => h
                case hy_26 =>
                  refine Or.inl ⟨by rfl, ?_⟩
                  intro W hSw
                  obtain ⟨q0, q1, q2, q3⟩ := hSw
                  go_simp
                  try with_reducible rfl
                try simp only [Act.put, List.setIfInBounds_toArray, List.set_cons_zero, List.set_cons_succ]
                refine wpAnyH_done (by kernel_rfl) ?_ _
                as_aux_lemma =>
                 have hA3' := A3.out.1
                 rw [HEQ.out, show 0 + j0 + (L.length - (j0 + 1)) + 1 = (gvL L j0 ⟨p, xs, true⟩).length from by rw [HLN.out]; omega] at hA3'
                 have HOF : Hid (We.ownsRow w.heap.size 33 3 u3 (gvL L j0 ⟨p, xs, true⟩).length (rows (gvL L j0 ⟨p, xs, true⟩))) := Lib.hid (own_base hA3' (by have := HA3.out.bel.size; have := HF34.out.size; omega))
                 have HAF : Hid (ARel w a bb rm gm (d.give p xs v3) We) := Lib.hid (HA3.out.mv (below_of_fr (HF34.out.trans hHeld.1)))
                 have HRF := Lib.hid (hRG.out v3)
                 clear hA3' hHeld
                 go_wp2
                 go_roundw
                 case rel => exact ⟨k + 1, gvL L j0 ⟨p, xs, true⟩, d.give p xs v3, by omega, by go_num, rfl, rfl, by rw [HLN.out]; omega, by show d.ops + 1 ≤ k + 1; omega, HAF, HOF, HRF, HZ⟩
                 case measure => simp [intOf]; omega
              refine step_append_33 rfl (.tmp 117) (.tmp 121) rfl w4.heap.size (0 + j0) u1 _ rfl A1.out.1 (cutL g cp (j0 + 1)) (L.length - (j0 + 1)) (cp - (j0 + 1)) R2 rfl HL2.out (HN2.out _ hHeld.1) HO2.out (by omega) hHeld.1.size ?_
              intro u2 Wc A20
              have A2 := Lib.hid A20
              have hK2 : Kp w4 X p xs Wc := hHeld.fr hXl.out A2.out.2.1 (fun k q => (own_ge A1.out.1 k q).1)
              refine hK.out _ _ hK2 (fun hHeld => ?_)
              clear hK K hK2 A20
              try simp only [Act.put, List.setIfInBounds_toArray, List.set_cons_zero, List.set_cons_succ]
              refine wpAnyH_ready (rs := [11]) (by kernel_rfl) (by simp) ?_
              refine AllReadyH.cons (o := ?oi_27) ?hi_27 (fun K hK => ?_) AllReadyH.nil
              case hi_27 => simp only [List.getElem?_toArray, List.getElem?_cons_zero, List.getElem?_cons_succ]; rfl
              go_simp
              refine hK.out _ _ (hHeld.alloc hXl.out _) (fun hHeld => ?_)
              clear hK K
              try simp only [Act.put, List.setIfInBounds_toArray, List.set_cons_zero, List.set_cons_succ]
              have hY2 := Lib.hid (YP.new (p := p) (xs := xs) A2.out.1)
              have own2 := Lib.hid (World.ownsRow.alloc A2.out.1 (Obj.cells #[Value.int .i64 (p : Int), Value.int .i64 (xs : Int), Value.bool false] 33))
              obtain ⟨Y, eY⟩ : ∃ Y, Y = Wc.heap.size := ⟨_, rfl⟩
              rw [← eY] at hY2 ⊢
              generalize Wc.alloc (Obj.cells #[Value.int .i64 (p : Int), Value.int .i64 (xs : Int), Value.bool false] 33) = Wcy at hY2 own2 hHeld ⊢
              clear eY
              refine wpAnyH_ready (rs := [12]) (by kernel_rfl) (by simp) ?_
              refine AllReadyH.cons (o := ?oi_28) ?hi_28 (fun K hK => ?_) AllReadyH.nil
              case hi_28 => simp only [List.getElem?_toArray, List.getElem?_cons_zero, List.getElem?_cons_succ]; rfl
              refine step_append_33 rfl (.tmp 122) (.tmp 124) rfl w4.heap.size (0 + j0 + (L.length - (j0 + 1))) u2 _ rfl own2.out ⟨Y, 0, none⟩ 1 1 (Rm.cs ⟨p, xs, false⟩) rfl rfl hY2.out.cells HO0.out (by omega) hHeld.1.size ?_
              intro u3 We A30
              have A3 := Lib.hid A30
              have hK2 : Kp w4 X p xs We := hHeld.fr hXl.out A3.out.2.1 (fun k q => (own_ge own2.out k q).1)
              refine hK.out _ _ hK2 (fun hHeld => ?_)
              clear hK K hK2 A30
              try simp only [Act.put, List.setIfInBounds_toArray, List.set_cons_zero, List.set_cons_succ]
              refine wpAnyH_take (i := 13) (oi := ?oi_29) (v := ?_) ?hi_29 (by kernel_rfl) ?hf_29 (by kernel_rfl) ?hQ_29 ?hy_29 (by assumption) ?_
              case hi_29 => simp only [List.getElem?_toArray, List.getElem?_cons_zero, List.getElem?_cons_succ]; rfl
              case hf_29 => kernel_rfl
              case hQ_29 => exact fun _ _ _ h => h
              case hy_29 =>
                refine Or.inl ⟨by rfl, ?_⟩
                intro W hSw
                obtain ⟨q0, q1, q2, q3⟩ := hSw
                go_simp
                try with_reducible rfl
              try simp only [Act.put, List.setIfInBounds_toArray, List.set_cons_zero, List.set_cons_succ]
              refine wpAnyH_done (by kernel_rfl) ?_ _
              as_aux_lemma =>
               have hA3' := A3.out.1
               rw [HEQ.out, show 0 + j0 + (L.length - (j0 + 1)) + 1 = (gvL L j0 ⟨p, xs, true⟩).length from by rw [HLN.out]; omega] at hA3'
               have HOF : Hid (We.ownsRow w.heap.size 33 3 u3 (gvL L j0 ⟨p, xs, true⟩).length (rows (gvL L j0 ⟨p, xs, true⟩))) := Lib.hid (own_base hA3' (by have := HA3.out.bel.size; have := HF34.out.size; omega))
               have HAF : Hid (ARel w a bb rm gm (d.give p xs v3) We) := Lib.hid (HA3.out.mv (below_of_fr (HF34.out.trans hHeld.1)))
               have HRF := Lib.hid (hRG.out v3)
               clear hA3' hHeld
               go_wp2
               go_roundw
               case rel => exact ⟨k + 1, gvL L j0 ⟨p, xs, true⟩, d.give p xs v3, by omega, by go_num, rfl, rfl, by rw [HLN.out]; omega, by show d.ops + 1 ≤ k + 1; omega, HAF, HOF, HRF, HZ⟩
               case measure => simp [intOf]; omega
      | false =>
        rw [hK] at hA0
        clear hK
        by_cases hneg : n < 0
        ·
         as_aux_lemma =>
          have HT := Lib.hid (Take_arg a n wr (.inl hneg))
          go_wp2_with (go_at_call 10; refine HT.out.mono ?_; rintro e w3 ⟨rfl, rfl⟩)
          go_roundw
          case rel => exact ⟨k + 1, L, d, by omega, by go_num, rfl, rfl, by omega, by omega, HA, HO, HR, HZ⟩
          case measure => simp [intOf]; omega
        by_cases hbig : 4194304 < n
        ·
         as_aux_lemma =>
          have HT := Lib.hid (Take_arg a n wr (.inr ⟨by omega, hbig⟩))
          go_wp2_with (go_at_call 10; refine HT.out.mono ?_; rintro e w3 ⟨rfl, rfl⟩)
          go_roundw
          case rel => exact ⟨k + 1, L, d, by omega, by go_num, rfl, rfl, by omega, by omega, HA, HO, HR, HZ⟩
          case measure => simp [intOf]; omega
        have hn0 : 0 ≤ n := by omega
        have hn1 : n ≤ 4194304 := by omega
        have HCL := Lib.hid (fun W : World => lclass_any n W hn1)
        have hc16 := cl_lo n
        have hcm := cl_hi n
        rcases li_cases (isF L (cl n)) L.length with ⟨e19, hno⟩ | ⟨j0, hj0, e19, hyes, hlast⟩
        · have hG : d.G (cl n) = [] := HR.out.empty (fun j hj => by rw [← isF_at hj]; exact hno j hj)
          by_cases hfit : d.height + cl n ≤ sz
          ·
           as_aux_lemma =>
            have HT := Lib.hid (Take_cut a bb rm gm d n wr HA.out.are hn0 hn1 hG (by rw [HZ.out]; exact hfit) (by omega))
            have hRC := Lib.hid (HR.out.cut hc16 hcm)
            have hAC := Lib.hid (fun W q1 q2 => HA.out.takeC (n := n) (w2 := W) q1 q2)
            have hdc : decide (((cl n : Nat) : Int) ≤ (sz : Int) - (d.height : Int)) = true := by simp; omega
            have E19 := Lib.hid e19
            obtain ⟨i0, hii, hz0, hz1, hz2⟩ := info_parts info33
            unfold TcPost at HT
            obtain ⟨c, ec⟩ : ∃ c, c = cl n := ⟨_, rfl⟩
            rw [← ec] at HT hRC HCL hc16 hcm hfit hdc hAC E19
            clear e19 hno hG ec hbl hneg hbig
            go_wp2_with (first
              | (go_at_call 10; refine HT.out.mono ?_; rintro e w3 ⟨rfl, q1, q2⟩; have HA3 := Lib.hid (hAC.out _ q1 q2); have HF3 := Lib.hid q2; clear q1 q2)
              | (go_at_call 11; refine (HCL.out _).mono ?_; rintro e w3' ⟨rfl, rfl⟩))
            have HO3 : Hid (w3.ownsRow w.heap.size 33 3 (.slice A7 L.length cp) L.length (rows L)) := Lib.hid (own33_fr HO.out HF3.out (fun g' cur' hb' q => HA.out.are.mine33 hb' (arb_mine q)))
            obtain ⟨A8, cp8, e8, _, _, hsh8⟩ := own_shape HO3.out
            injection e8 with e8a e8b e8c
            subst e8a
            subst e8c
            have HSH8 := Lib.hid hsh8
            clear hsh8 HF3 HSH
            go_loop [19, 20] (fun v19 v20 => ∃ (j : Nat) (z : Int), j ≤ L.length ∧ v20 = .int .i64 j ∧ v19 = .int .i64 z ∧ -1 ≤ z ∧ z < 60 ∧ Hid (z = li (isF L c) j)) (fun _ v20 => L.length - (intOf v20).toNat)
            case atStart => exact ⟨0, -1, Nat.zero_le _, rfl, rfl, by omega, by omega, Lib.hid rfl⟩
            case round =>
             as_aux_lemma =>
              obtain ⟨j, z, hj, rfl, rfl, hz1', hz2', HZ2⟩ := hrel
              by_cases hjl : j < L.length
              · obtain ⟨g, cur, rfl, _, _, hc⟩ := HSH8.out (by omega)
                have c2 : w3.cell? ⟨g, j * 3 + 2, none⟩ = some (.bool L[j].tk) := hc j 2 _ (List.getElem?_eq_getElem hjl) (by omega)
                have c1 : w3.cell? ⟨g, j * 3 + 1, none⟩ = some (.int .i64 L[j].sz) := hc j 1 _ (List.getElem?_eq_getElem hjl) (by omega)
                have hgf := isF_at (c := c) hjl
                have hli : li (isF L c) (j + 1) = if isF L c j then (j : Int) else li (isF L c) j := rfl
                have hbd := (HR.out.bd HA.out (List.getElem_mem hjl)).2
                obtain ⟨x, ex⟩ : ∃ x, x = L[j] := ⟨_, rfl⟩
                rw [← ex] at c2 c1 hgf hbd
                obtain ⟨xa, xz, xt⟩ := x
                have HLI := Lib.hid hli
                have HGF := Lib.hid hgf
                clear hc ex hli hgf
                cases xt with
                | true =>
                  go_wp2
                  go_round
                  case rel => exact ⟨j + 1, z, by omega, by go_num, rfl, hz1', hz2', Lib.hid (by rw [HLI.out, HGF.out]; exact HZ2.out)⟩
                  case measure => simp [intOf]; omega
                | false =>
                  by_cases hat : xz = c
                  · have hat' : ((xz : Int) == (c : Int)) = true := by simp; omega
                    have HAT := Lib.hid hat
                    clear hat
                    go_wp2
                    go_round
                    case rel => exact ⟨j + 1, (j : Int), by omega, by go_num, rfl, by omega, by omega, Lib.hid (by rw [HLI.out, HGF.out]; simp [Rm.is, HAT.out])⟩
                    case measure => simp [intOf]; omega
                  · have hat' : ((xz : Int) == (c : Int)) = false := by simp; omega
                    have HAT := Lib.hid hat
                    clear hat
                    go_wp2
                    go_round
                    case rel => exact ⟨j + 1, z, by omega, by go_num, rfl, hz1', hz2', Lib.hid (by rw [HLI.out, HGF.out]; simp [Rm.is, HAT.out]; exact HZ2.out)⟩
                    case measure => simp [intOf]; omega
              · obtain rfl : j = L.length := by omega
                obtain rfl : z = -1 := HZ2.out.trans E19.out
                have HLv := Lib.hid (fun (W : World) (q : ARel w a bb rm gm ((d.cut c).take d.height c) W) => Live_any q.are)
                have HHt := Lib.hid (fun (W : World) (q : ARel w a bb rm gm ((d.cut c).take d.height c) W) => Height_any q.are)
                have HSz : Hid (∀ (W : World) (q : ARel w a bb rm gm ((d.cut c).take d.height c) W), Calls Try.prog 14 #[.pointer (some ⟨a, 0, none⟩)] W fun e w' => e = .returned (.int .i64 sz) ∧ W = w') := Lib.hid (fun W q => by
                  have := ASize_any q.are
                  rw [show ((d.cut c).take d.height c).sz = sz from HZ.out] at this
                  exact this)
                go_wp2_with (first
                  | (at_builtin; go_loud (refine wpList_append_own _ rfl (.tmp 208) (.tmp 212) 28 rfl w.heap.size 33 i0 _ 3 24 Try.underlying28 hii hz0 hz1 hz2 rfl (by decide) (.slice A7 L.length cp) L.length (rows L) rfl (HO3.out.alloc _) ⟨w3.heap.size, 0, none⟩ 1 1 (Rm.cs ⟨d.height, c, true⟩) rfl rfl (Blk.src (Blk.new _ _ _)) (rows_one [⟨d.height, c, true⟩]) (by unfold maxLen; omega) (by omega) (by have := HA3.out.bel.size; simp; omega) ?_)
                     intro v4 w4 q1 q2 _
                     have HO4 : Hid (w4.ownsRow w.heap.size 33 3 v4 (L ++ [(⟨d.height, c, true⟩ : Rm)]).length (rows (L ++ [(⟨d.height, c, true⟩ : Rm)]))) := Lib.hid (by rw [rows_app, List.length_append]; exact q1)
                     have HA4 : Hid (ARel w a bb rm gm ((d.cut c).take d.height c) w4) := Lib.hid (HA3.out.app33 HO3.out q2)
                     clear q1 q2)
                  | (go_at_call 12; refine (HLv.out _ HA4.out).mono ?_; rintro e w5 ⟨rfl, rfl⟩)
                  | (go_at_call 13; refine (HHt.out _ HA4.out).mono ?_; rintro e w5 ⟨rfl, rfl⟩)
                  | (go_at_call 14; refine (HSz.out _ HA4.out).mono ?_; rintro e w5 ⟨rfl, rfl⟩))
                go_roundw
                case rel => exact ⟨k + 1, L ++ [⟨d.height, c, true⟩], (d.cut c).take d.height c, by omega, by go_num, by show _ = Value.int .i64 ((d.height + c : Nat) : Int); go_num, rfl, by simp; omega, by show d.ops + 1 ≤ k + 1; omega, HA4, HO4, hRC, HZ⟩
                case measure => simp [intOf]; omega
          ·
           as_aux_lemma =>
            have HT := Lib.hid (Take_full a bb rm gm d n wr HA.out.are hn0 hn1 hG (by rw [HZ.out]; omega))
            have hdc : decide (((cl n : Nat) : Int) ≤ (sz : Int) - (d.height : Int)) = false := by simp; omega
            have E19 := Lib.hid e19
            obtain ⟨c, ec⟩ : ∃ c, c = cl n := ⟨_, rfl⟩
            rw [← ec] at HCL hc16 hcm hfit hdc E19
            clear e19 hno hG ec hbl hneg hbig
            go_wp2_with (first
              | (go_at_call 10; refine HT.out.mono ?_; rintro e w3 ⟨rfl, q, hq⟩; have HA3 : Hid (ARel w a bb rm gm d w3) := Lib.hid (by rw [← hq]; exact HA.out.drewN q); have HO3 : Hid (w3.ownsRow w.heap.size 33 3 (.slice A7 L.length cp) L.length (rows L)) := Lib.hid (by rw [← hq]; exact HO.out); clear hq)
              | (go_at_call 11; refine (HCL.out _).mono ?_; rintro e w3' ⟨rfl, rfl⟩))
            obtain ⟨A8, cp8, e8, _, _, hsh8⟩ := own_shape HO3.out
            injection e8 with e8a e8b e8c
            subst e8a
            subst e8c
            have HSH8 := Lib.hid hsh8
            clear hsh8 HSH
            go_loop [19, 20] (fun v19 v20 => ∃ (j : Nat) (z : Int), j ≤ L.length ∧ v20 = .int .i64 j ∧ v19 = .int .i64 z ∧ -1 ≤ z ∧ z < 60 ∧ Hid (z = li (isF L c) j)) (fun _ v20 => L.length - (intOf v20).toNat)
            case atStart => exact ⟨0, -1, Nat.zero_le _, rfl, rfl, by omega, by omega, Lib.hid rfl⟩
            case round =>
             as_aux_lemma =>
              obtain ⟨j, z, hj, rfl, rfl, hz1', hz2', HZ2⟩ := hrel
              by_cases hjl : j < L.length
              · obtain ⟨g, cur, rfl, _, _, hc⟩ := HSH8.out (by omega)
                have c2 : w3.cell? ⟨g, j * 3 + 2, none⟩ = some (.bool L[j].tk) := hc j 2 _ (List.getElem?_eq_getElem hjl) (by omega)
                have c1 : w3.cell? ⟨g, j * 3 + 1, none⟩ = some (.int .i64 L[j].sz) := hc j 1 _ (List.getElem?_eq_getElem hjl) (by omega)
                have hgf := isF_at (c := c) hjl
                have hli : li (isF L c) (j + 1) = if isF L c j then (j : Int) else li (isF L c) j := rfl
                have hbd := (HR.out.bd HA.out (List.getElem_mem hjl)).2
                obtain ⟨x, ex⟩ : ∃ x, x = L[j] := ⟨_, rfl⟩
                rw [← ex] at c2 c1 hgf hbd
                obtain ⟨xa, xz, xt⟩ := x
                have HLI := Lib.hid hli
                have HGF := Lib.hid hgf
                clear hc ex hli hgf
                cases xt with
                | true =>
                  go_wp2
                  go_round
                  case rel => exact ⟨j + 1, z, by omega, by go_num, rfl, hz1', hz2', Lib.hid (by rw [HLI.out, HGF.out]; exact HZ2.out)⟩
                  case measure => simp [intOf]; omega
                | false =>
                  by_cases hat : xz = c
                  · have hat' : ((xz : Int) == (c : Int)) = true := by simp; omega
                    have HAT := Lib.hid hat
                    clear hat
                    go_wp2
                    go_round
                    case rel => exact ⟨j + 1, (j : Int), by omega, by go_num, rfl, by omega, by omega, Lib.hid (by rw [HLI.out, HGF.out]; simp [Rm.is, HAT.out])⟩
                    case measure => simp [intOf]; omega
                  · have hat' : ((xz : Int) == (c : Int)) = false := by simp; omega
                    have HAT := Lib.hid hat
                    clear hat
                    go_wp2
                    go_round
                    case rel => exact ⟨j + 1, z, by omega, by go_num, rfl, hz1', hz2', Lib.hid (by rw [HLI.out, HGF.out]; simp [Rm.is, HAT.out]; exact HZ2.out)⟩
                    case measure => simp [intOf]; omega
              · obtain rfl : j = L.length := by omega
                obtain rfl : z = -1 := HZ2.out.trans E19.out
                have HLv := Lib.hid (fun (W : World) (q : ARel w a bb rm gm d W) => Live_any q.are)
                have HHt := Lib.hid (fun (W : World) (q : ARel w a bb rm gm d W) => Height_any q.are)
                have HSz : Hid (∀ (W : World) (q : ARel w a bb rm gm d W), Calls Try.prog 14 #[.pointer (some ⟨a, 0, none⟩)] W fun e w' => e = .returned (.int .i64 sz) ∧ W = w') := Lib.hid (fun W q => by
                  have := ASize_any q.are
                  rw [HZ.out] at this
                  exact this)
                go_wp2_with (first
                  | (go_at_call 12; refine (HLv.out _ HA3.out).mono ?_; rintro e w5 ⟨rfl, rfl⟩)
                  | (go_at_call 13; refine (HHt.out _ HA3.out).mono ?_; rintro e w5 ⟨rfl, rfl⟩)
                  | (go_at_call 14; refine (HSz.out _ HA3.out).mono ?_; rintro e w5 ⟨rfl, rfl⟩))
                go_roundw
                case rel => exact ⟨k + 1, L, d, by omega, by go_num, rfl, rfl, by omega, by omega, HA3, HO3, HR, HZ⟩
                case measure => simp [intOf]; omega
        ·
         as_aux_lemma =>
          have hm0 : L[j0] ∈ L := List.getElem_mem hj0
          rw [isF_at hj0] at hyes
          have hlast' : ∀ j (hj : j < L.length), j0 < j → L[j].is (cl n) = false := fun j hj hjj => by rw [← isF_at hj]; exact hlast j hjj hj
          have hG := HR.out.last hj0 hyes hlast'
          have HT := Lib.hid (Take_given a bb rm gm d n _ _ wr HA.out.are hn0 hn1 hG (by omega))
          have hRG := Lib.hid (fun v => HR.out.take (v := v) hj0 hyes hlast')
          have hAG := Lib.hid (fun W v q1 q2 q3 => HA.out.takeG (n := n) (w2 := W) (v := v) hG q1 q2 q3)
          have hRK := Lib.hid (rows_tk hj0)
          have hTL := Lib.hid (tkL_len (x := L[j0]) hj0)
          have hsz2 : L[j0].sz = cl n := by simp [Rm.is] at hyes; exact hyes.2
          have htk2 : L[j0].tk = false := by simp [Rm.is] at hyes; exact hyes.1
          have hbd := HR.out.bd HA.out hm0
          obtain ⟨g, cur, rfl, hBg, hgB, hc⟩ := HSH.out (by omega)
          have hLj : L[j0]? = some L[j0] := List.getElem?_eq_getElem hj0
          have E19 := Lib.hid e19
          unfold TgPost at HT
          obtain ⟨c, ec⟩ : ∃ c, c = cl n := ⟨_, rfl⟩
          rw [← ec] at HT hRG HCL hc16 hcm hAG E19 hsz2
          obtain ⟨XS, eXS⟩ : ∃ XS, XS = ((L.take j0).filter (·.is c)).map Rm.at_ := ⟨_, rfl⟩
          rw [ec, ← ec, ← eXS] at HT hRG hAG
          obtain ⟨x, ex⟩ : ∃ x, x = L[j0] := ⟨_, rfl⟩
          rw [← ex] at HT hRG hRK hTL hbd hLj hAG hsz2 htk2
          obtain ⟨p, xs, xt⟩ := x
          simp only at hsz2 htk2 hbd HT hRG hAG
          subst hsz2
          subst htk2
          have hbd1 := hbd.1
          have HC0 : Hid (∀ (W : World), (∀ i, W.cell? ⟨g, i, none⟩ = wr.cell? ⟨g, i, none⟩) → ∀ k j x, L[k]? = some x → j < 3 → W.cell? ⟨g, k * 3 + j, none⟩ = x.cs[j]?) := Lib.hid (fun W hW k j x hx hj => (hW _).trans (hc k j x hx hj))
          have HGB := Lib.hid hgB
          have HLJ := Lib.hid hLj
          clear e19 hyes hlast hlast' hG hbl hneg hbig hm0 ec eXS ex hc hgB hbd hLj
          go_wp2_with (first
            | (go_at_call 10; refine HT.out.mono ?_; rintro e w3 ⟨v3, rfl, q1, q2, q3⟩; have HA3 := Lib.hid (hAG.out _ _ q1 q2 q3); have HF3 := Lib.hid q2; clear q1 q2 q3)
            | (go_at_call 11; refine (HCL.out _).mono ?_; rintro e w3' ⟨rfl, rfl⟩))
          have hnS : ¬ arb a bb rm gm g := fun q => HA.out.are.mine33 HGB.out (arb_mine q)
          have HO3 : Hid (w3.ownsRow w.heap.size 33 3 (.slice (some ⟨g, 0, none⟩) L.length cp) L.length (rows L)) := Lib.hid (own33_fr HO.out HF3.out (fun g' cur' hb' q => HA.out.are.mine33 hb' (arb_mine q)))
          have HB3 : Hid (Blk w3 g 33 cur) := Lib.hid (HGB.out.fr HF3.out hnS)
          have HC3 := Lib.hid (HC0.out w3 (fun i => World.cell?_of_block (HF3.out.block g HGB.out.lt hnS)))
          clear hnS HF3 HC0 HGB
          go_loop [19, 20] (fun v19 v20 => ∃ (j : Nat) (z : Int), j ≤ L.length ∧ v20 = .int .i64 j ∧ v19 = .int .i64 z ∧ -1 ≤ z ∧ z < 60 ∧ Hid (z = li (isF L xs) j)) (fun _ v20 => L.length - (intOf v20).toNat)
          case atStart => exact ⟨0, -1, Nat.zero_le _, rfl, rfl, by omega, by omega, Lib.hid rfl⟩
          case round =>
           as_aux_lemma =>
            obtain ⟨j, z, hj, rfl, rfl, hz1', hz2', HZ2⟩ := hrel
            by_cases hjl : j < L.length
            · have hc := HC3.out
              have c2 : w3.cell? ⟨g, j * 3 + 2, none⟩ = some (.bool L[j].tk) := hc j 2 _ (List.getElem?_eq_getElem hjl) (by omega)
              have c1 : w3.cell? ⟨g, j * 3 + 1, none⟩ = some (.int .i64 L[j].sz) := hc j 1 _ (List.getElem?_eq_getElem hjl) (by omega)
              have hgf := isF_at (c := xs) hjl
              have hli : li (isF L xs) (j + 1) = if isF L xs j then (j : Int) else li (isF L xs) j := rfl
              have hbd := (HR.out.bd HA.out (List.getElem_mem hjl)).2
              obtain ⟨x, ex⟩ : ∃ x, x = L[j] := ⟨_, rfl⟩
              rw [← ex] at c2 c1 hgf hbd
              obtain ⟨xa, xz, xt⟩ := x
              have HLI := Lib.hid hli
              have HGF := Lib.hid hgf
              clear hc ex hli hgf
              cases xt with
              | true =>
                go_wp2
                go_round
                case rel => exact ⟨j + 1, z, by omega, by go_num, rfl, hz1', hz2', Lib.hid (by rw [HLI.out, HGF.out]; exact HZ2.out)⟩
                case measure => simp [intOf]; omega
              | false =>
                by_cases hat : xz = xs
                · have hat' : ((xz : Int) == (xs : Int)) = true := by simp; omega
                  have HAT := Lib.hid hat
                  clear hat
                  go_wp2
                  go_round
                  case rel => exact ⟨j + 1, (j : Int), by omega, by go_num, rfl, by omega, by omega, Lib.hid (by rw [HLI.out, HGF.out]; simp [Rm.is, HAT.out])⟩
                  case measure => simp [intOf]; omega
                · have hat' : ((xz : Int) == (xs : Int)) = false := by simp; omega
                  have HAT := Lib.hid hat
                  clear hat
                  go_wp2
                  go_round
                  case rel => exact ⟨j + 1, z, by omega, by go_num, rfl, hz1', hz2', Lib.hid (by rw [HLI.out, HGF.out]; simp [Rm.is, HAT.out]; exact HZ2.out)⟩
                  case measure => simp [intOf]; omega
            · obtain rfl : j = L.length := by omega
              obtain rfl : z = (j0 : Int) := HZ2.out.trans E19.out
              have c0 : w3.cell? ⟨g, j0 * 3, none⟩ = some (.int .i64 p) := HC3.out j0 0 _ HLJ.out (by omega)
              have c2 : w3.cell? ⟨g, j0 * 3 + 2, none⟩ = some (.bool false) := HC3.out j0 2 _ HLJ.out (by omega)
              have z2 := HB3.out.frozen (j0 * 3 + 2)
              have HA4 : Hid (ARel w a bb rm gm ((d.pop xs XS v3).take p xs) (w3.setCell ⟨g, j0 * 3 + 2, none⟩ (.bool true))) := Lib.hid (HA3.out.put33 HB3.out hBg)
              have HO4 : Hid ((w3.setCell ⟨g, j0 * 3 + 2, none⟩ (.bool true)).ownsRow w.heap.size 33 3 (.slice (some ⟨g, 0, none⟩) L.length cp) L.length (rows (tkL L j0 ⟨p, xs, false⟩))) := Lib.hid (by
                rw [← hRK.out]
                exact own_set HO3.out (by omega))
              have HLv := Lib.hid (fun (W : World) (q : ARel w a bb rm gm ((d.pop xs XS v3).take p xs) W) => Live_any q.are)
              have HHt := Lib.hid (fun (W : World) (q : ARel w a bb rm gm ((d.pop xs XS v3).take p xs) W) => Height_any q.are)
              have HSz : Hid (∀ (W : World) (q : ARel w a bb rm gm ((d.pop xs XS v3).take p xs) W), Calls Try.prog 14 #[.pointer (some ⟨a, 0, none⟩)] W fun e w' => e = .returned (.int .i64 sz) ∧ W = w') := Lib.hid (fun W q => by
                have := ASize_any q.are
                rw [show ((d.pop xs XS v3).take p xs).sz = sz from HZ.out] at this
                exact this)
              have HRF := Lib.hid (hRG.out v3)
              go_wp2_with (first
                | (go_at_call 12; refine (HLv.out _ HA4.out).mono ?_; rintro e w5 ⟨rfl, rfl⟩)
                | (go_at_call 13; refine (HHt.out _ HA4.out).mono ?_; rintro e w5 ⟨rfl, rfl⟩)
                | (go_at_call 14; refine (HSz.out _ HA4.out).mono ?_; rintro e w5 ⟨rfl, rfl⟩))
              go_roundw
              case rel => exact ⟨k + 1, tkL L j0 ⟨p, xs, false⟩, (d.pop xs XS v3).take p xs, by omega, by go_num, rfl, rfl, by rw [hTL.out]; omega, by show d.ops + 1 ≤ k + 1; omega, HA4, by rw [hTL.out]; exact HO4, HRF, HZ⟩
              case measure => simp [intOf]; omega
    ·
     as_aux_lemma =>
      obtain ⟨A7, cp, rfl, hl7, hm7, hsh⟩ := own_shape HO.out
      have HSH := Lib.hid hsh
      have hm7' : cp ≤ 9223372036854775807 := hm7
      have hHt : d.height ≤ 4194304 := by have := HA.out.are.hsz; have := HA.out.are.lim; omega
      have hL1 : -251658240 ≤ d.live := by have := HA.out.are.liv1; omega
      have hL2 : d.live ≤ 251658240 := by have := HA.out.are.liv2; omega
      have HLv := Lib.hid (Live_any HA.out.are)
      have HHt := Lib.hid (Height_any HA.out.are)
      clear hsh hm7
      go_wp2
      go_loop [21] (fun v21 => ∃ j : Nat, j ≤ L.length ∧ v21 = .int .i64 j) (fun v21 => L.length - (intOf v21).toNat)
      case atStart => exact ⟨0, Nat.zero_le _, rfl⟩
      case round =>
       as_aux_lemma =>
        obtain ⟨j, hj, rfl⟩ := hrel
        by_cases hjl : j < L.length
        · obtain ⟨g, cur, rfl, _, _, hc⟩ := HSH.out (by omega)
          have c0 : wr.cell? ⟨g, j * 3, none⟩ = some (.int .i64 L[j].at_) := hc j 0 _ (List.getElem?_eq_getElem hjl) (by omega)
          have c1 : wr.cell? ⟨g, j * 3 + 1, none⟩ = some (.int .i64 L[j].sz) := hc j 1 _ (List.getElem?_eq_getElem hjl) (by omega)
          have c2 : wr.cell? ⟨g, j * 3 + 2, none⟩ = some (.bool L[j].tk) := hc j 2 _ (List.getElem?_eq_getElem hjl) (by omega)
          have hbd := HR.out.bd HA.out (List.getElem_mem hjl)
          have hbd1 := hbd.1
          have hbd2 := hbd.2
          have hfree := HR.out.free hjl
          have htook := HR.out.took hjl
          obtain ⟨x, ex⟩ : ∃ x, x = L[j] := ⟨_, rfl⟩
          rw [← ex] at c2 c1 c0 hbd1 hbd2 hfree htook
          obtain ⟨xa, xz, xt⟩ := x
          simp only at hfree htook hbd1 hbd2
          clear hc ex hbd
          cases xt with
          | true =>
            have HRm := Lib.hid (Room_yes HA.out.are (htook rfl))
            clear hfree htook
            go_wp2_with (go_at_call 15; refine HRm.out.mono ?_; rintro e w5 ⟨rfl, rfl⟩)
            go_round
            case rel => exact ⟨j + 1, by omega, by go_num⟩
            case measure => simp [intOf]; omega
          | false =>
            have HRm := Lib.hid (Room_no HA.out.are (WalkArith.wf_i64 (by omega)) (hfree rfl))
            clear hfree htook
            go_wp2_with (go_at_call 15; refine HRm.out.mono ?_; rintro e w5 ⟨rfl, rfl⟩)
            go_round
            case rel => exact ⟨j + 1, by omega, by go_num⟩
            case measure => simp [intOf]; omega
        · obtain rfl : j = L.length := by omega
          go_wp2_with (first
            | (go_at_call 12; refine HLv.out.mono ?_; rintro e w5 ⟨rfl, rfl⟩)
            | (go_at_call 13; refine HHt.out.mono ?_; rintro e w5 ⟨rfl, rfl⟩))
          go_ret
          exact ⟨rfl, HA.out.bel⟩

theorem arenaRooms_walk (a0 : Int) (A : Option Addr) (m cap : Nat) (K : Nat → Bool) (V : Nat → Int) (w : World) (w0 : (Lit.int .i64 a0).wf = true) (hb : BActs w A m cap K V) :
    Calls Try.prog 3 #[.int .i64 a0, .slice A m cap] w fun e w' => e = .returned (.bool true) ∧ Below w.heap.size w w' := rooms_walk a0 A m cap K V w w0 hb
end Go.Proofs.Ytkmocjbpinmlaaa
