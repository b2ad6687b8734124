/-
  Called with any bytes and any sizes, grommetlaw02.FlashParts returns true and leaves its arguments as they were; no condition.
-/
import Derived.Test.YtchdcimmbmphnaaFg
import Derived.WalkKit
import Derived.ProofKit
import Derived.OpenShut
import Derived.ShutString
import Derived.ChangeOld
import Derived.Below
namespace Go.Proofs.Ytchdcimmbmphnaa
open Go.ChangeShapes Go.WideShapes Go.ChangeAt Go.RowKit
open Go.ChangeMaps (open_string shut_string)
set_option linter.unusedVariables false


theorem conv_own {w : World} {B n : Nat} {v : Value} {l : List Nat} (h : w.ownsRow B 5 1 v n (l.map U8)) (hx : ∀ x ∈ l, x < 256) : (convert 22 9 v).run Try.prog w = .ok (.string (str l)) w := by
  by_cases h0 : 0 < n
  · obtain ⟨g, cp, rfl, hb, _⟩ := byt_of_own h h0 hx
    exact conv_byt hb
  · have hl : l = [] := List.eq_nil_of_length_eq_zero (by have := h.1; rw [List.length_map] at this; omega)
    subst hl
    rcases h.2 with ⟨rfl, _⟩ | ⟨g, cap, cur, rfl, _, _, hnc, hm, _⟩
    · exact conv_byt (byt_nil w)
    · exact conv_byt ⟨by simp; omega, by simp, hnc, hm, fun h => absurd h h0⟩
theorem left_quiet (w : World) (c f : Nat) (fr t a : Nat) (h : Blk w c 92 (cuC f fr t a)) (h1 : a ≤ t) (h2 : t ≤ 65536) (j : Nat) :
    Calls Try.prog 35 #[.pointer (some ⟨c, 0, none⟩)] (w.drewN j) fun e w' => e = .returned (.int .i64 ((t : Int) - (a : Int))) ∧ ∃ m, w' = w.drewN m :=
  (Left_any (w.drewN j) c f fr t a (h.drewN j) h1 h2).mono fun e w' ⟨he, k, hk⟩ => ⟨he, j + k, by rw [← hk, World.drewN_drewN]⟩
theorem ownsRow_fr {S : Nat → Prop} {w w' : World} {B E n : Nat} {v : Value} {xs : List Value} (h : w.ownsRow B E 1 v n xs) (hf : Fr S w w') (hS : ∀ k, S k → k < B ∨ w.heap.size ≤ k) : w'.ownsRow B E 1 v n xs := by
  refine ⟨h.1, ?_⟩
  rcases h.2 with h0 | ⟨g, cap, cur, hv, hB, hg, hr⟩
  · exact .inl h0
  · have hlt : g < w.heap.size := by
      rcases Nat.lt_or_ge g w.heap.size with q | q
      · exact q
      · rw [Array.getElem?_eq_none q] at hg; cases hg
    exact .inr ⟨g, cap, cur, hv, hB, hf.keep hg (fun q => by have := hS g q; omega), hr⟩
theorem Fr.of_grown {w w' : World} {v : Value} (h : w.grownBy w' v.ownBlock) : Fr (fun k => v.ownBlock = some k) w w' :=
  ⟨h.os, h.tape, h.output, h.size, fun k hk hs => h.block k hk (fun e => hs e.symm)⟩
def PRel (w : World) (B f g c N : Nat) (l : List Nat) (k a : Nat) (v : Value) (wr : World) : Prop :=
  St wr f g c N l k (-1) 0 N a ∧ wr.ownsRow B 5 1 v a ((l.take a).map U8) ∧ Below w.heap.size w wr ∧ f < B ∧ g < B ∧ c < B ∧ B ≤ wr.heap.size ∧ w.heap.size ≤ f ∧ w.heap.size ≤ g ∧ w.heap.size ≤ c ∧ w.heap.size ≤ B
theorem Part_okI (w : World) (f g c N : Nat) (l : List Nat) (r : Nat) (fa : Int) (fr t a n : Nat) (m : Int) (h : St w f g c N l r fa fr t a) (hn : a + n ≤ t) (hm : m = n) :
    Calls Try.prog 33 #[.pointer (some ⟨c, 0, none⟩), .int .i64 m] w (PaPost f g c N l r fa fr t a n w) := by
  subst hm; exact Part_ok w f g c N l r fa fr t a n h hn
theorem Take_okI (w : World) (f g c N : Nat) (l : List Nat) (r : Nat) (fa : Int) (fr t a n : Nat) (m : Int) (h : St w f g c N l r fa fr t a) (hn : a + n ≤ t) (hr : r < 1000000) (hfa : fa < 0 ∨ (0 ≤ fa ∧ (r : Int) < fa)) (hm : m = n) :
    Calls Try.prog 29 #[.pointer (some ⟨c, 0, none⟩), .int .i64 m] w (TkPost f g c N l r fa fr t a n w) := by
  subst hm; exact Take_ok w f g c N l r fa fr t a n h hn hr hfa
/-- what is known behind a part's reading: the cursor, what has been collected, the part's bytes -/
structure PMid (w : World) (B f g c N : Nat) (l : List Nat) (k a n b : Nat) (v : Value) (w8 : World) : Prop where
  st : St w8 f g c N l (k + 1) (-1) 0 N (a + n)
  own : w8.ownsRow B 5 1 v a ((l.take a).map U8)
  bel : Below w.heap.size w w8
  byt : Byt w8 (some ⟨b, 0, none⟩) n n ((l.drop a).take n)
  hf : f < B
  hg : g < B
  hc : c < B
  hB : B ≤ w8.heap.size
  qf : w.heap.size ≤ f
  qg : w.heap.size ≤ g
  qc : w.heap.size ≤ c
  qB : w.heap.size ≤ B
theorem byt_cells {w : World} {b n cap : Nat} {l : List Nat} (h : Byt w (some ⟨b, 0, none⟩) n cap l) : ∀ j u, (l.map U8)[j]? = some u → w.cell? ((⟨b, 0, none⟩ : Addr).add j) = some u := by
  intro j u hu
  have hj : j < l.length := by
    have := (List.getElem?_eq_some_iff.1 hu).1
    rw [List.length_map] at this; exact this
  rw [map_getD l j hj] at hu
  obtain ⟨b', off, hA, _, hc⟩ := h.2.2.2.2 (by have := h.1; omega)
  injection hA with hA
  injection hA with e1 e2 _
  rw [addr_add, e1, e2, hc j (by have := h.1; omega)]
  exact hu
theorem PRel_mid {w wr w5 w6 w8 : World} {B f g c N k a n b p : Nat} {l : List Nat} {v : Value} (h : PRel w B f g c N l k a v wr) (h5 : Fr (· = c) wr w5) (hp : wr.heap.size ≤ p) (h6 : Fr (FC f p) w5 w6) (h8 : Fr (fun _ => False) w6 w8)
    (s5 : St w5 f g c N l k (-1) 0 N (a + n)) (s6 : St w6 f g p N l (k + 1) (-1) a (a + n) (a + n)) (hb : Byt w6 (some ⟨b, 0, none⟩) n n ((l.drop a).take n)) : PMid w B f g c N l k a n b v w8 := by
  obtain ⟨hst, hown, hbel, hf, hg, hc, hB, qf, qg, qc, qB⟩ := h
  have hcp : c ≠ p := by have := hst.cu.lt; omega
  have hcu6 : Blk w6 c 92 (cuC f 0 N (a + n : Nat)) := s5.cu.fr h6 (fun e => by
    rcases e with e | e
    · exact s5.fc e.symm
    · exact hcp e)
  have hall : Fr (fun i => i = c ∨ FC f p i) wr w8 := ((h5.more (fun i hi => .inl hi)).trans (h6.more (fun i hi => .inr hi))).trans (h8.more (fun i hi => hi.elim))
  have hsz := hall.size
  refine ⟨⟨s6.fl.fr h8 id id, hcu6.fr h8 id, Nat.zero_le _, s5.h2, Nat.le_refl _⟩, ownsRow_fr hown hall (fun i hi => ?_), hall.below hbel hbel.size (fun i hi => ?_), hb.kept ⟨h8.os, h8.tape, h8.output, h8.size, fun i hi => h8.block i hi id⟩, hf, hg, hc, by omega, qf, qg, qc, qB⟩
  · rcases hi with rfl | rfl | rfl
    · exact .inl hc
    · exact .inl hf
    · exact .inr hp
  · have := hbel.size
    rcases hi with rfl | rfl | rfl
    · exact qc
    · exact qf
    · omega
theorem PMid_step {w w8 w9 : World} {B f g c N k a n b : Nat} {l : List Nat} {v v1 : Value} (h : PMid w B f g c N l k a n b v w8) (hown : w9.ownsRow B 5 1 v1 (a + n) ((l.take a).map U8 ++ ((l.drop a).take n).map U8)) (hg9 : w8.grownBy w9 v.ownBlock) :
    PRel w B f g c N l (k + 1) (a + n) v1 w9 := by
  have hfr := Fr.of_grown hg9
  have hlt := h.own.lt
  have hsz := hfr.size
  have hB := h.hB
  refine ⟨h.st.fr_ hfr (fun e => by have := hlt _ e; have := h.hf; omega) (fun e => by have := hlt _ e; have := h.hg; omega) (fun e => by have := hlt _ e; have := h.hc; omega), ?_, hfr.below h.bel h.bel.size (fun i hi => by have := hlt _ hi; have := h.qB; omega), h.hf, h.hg, h.hc, by omega, h.qf, h.qg, h.qc, h.qB⟩
  have e : (l.take a).map U8 ++ ((l.drop a).take n).map U8 = (l.take (a + n)).map U8 := by rw [← List.map_append, ← List.take_add]
  rw [← e]; exact hown
theorem PEnd {w wr w6 : World} {B f g c N k a : Nat} {l : List Nat} {v : Value} (h : PRel w B f g c N l k a v wr) (h6 : Fr (FC f c) wr w6) : Below w.heap.size w w6 ∧ w6.ownsRow B 5 1 v a ((l.take a).map U8) := by
  obtain ⟨hst, hown, hbel, hf, hg, hc, hB, qf, qg, qc, qB⟩ := h
  refine ⟨h6.below hbel hbel.size (fun i hi => ?_), ownsRow_fr hown h6 (fun i hi => ?_)⟩
  · rcases hi with rfl | rfl <;> assumption
  · rcases hi with rfl | rfl
    · exact .inl hf
    · exact .inl hc
theorem str_size (l : List Nat) : (str l).size = l.length := by
  have := congrArg List.length (str_data l)
  rw [List.length_map, Array.length_toList] at this
  exact this
theorem str_cat (l : List Nat) (a N : Nat) (h : l.length = N) (ha : a ≤ N) : str (l.take a) ++ str ((l.drop a).take (N - a)) = str l := by
  have e2 : (l.drop a).take (N - a) = l.drop a := List.take_of_length_le (by rw [List.length_drop]; omega)
  rw [e2]
  apply ByteArray.ext
  apply Array.toList_inj.1
  rw [ByteArray.data_append, Array.toList_append, str_data, str_data, str_data, ← List.map_append, List.take_append_drop]
theorem byt_zero {w : World} {A : Option Addr} {n cap : Nat} {l : List Nat} (h : Byt w A n cap l) (k : Nat) (hk : k < n) : ∃ b off, A = some ⟨b, off, none⟩ ∧ b < w.heap.size ∧ w.cell? ⟨b, off + k, none⟩ = some (.int .u8 (l.getD k 0 : Nat)) := by
  obtain ⟨b, off, hA, hlt, hc⟩ := h.2.2.2.2 (by omega)
  exact ⟨b, off, hA, hlt, hc k hk⟩
set_option maxHeartbeats 2000000 in
set_option maxRecDepth 100000 in
theorem flashParts_walk (a0 : Option Addr) (len0 cap0 : Nat) (z0 : List Int) (a1 : Option Addr) (len1 cap1 : Nat) (z1 : List Int) (w : World) (w0 : IsRow .u8 w a0 len0 cap0 z0) (w1 : IsRow .u8 w a1 len1 cap1 z1) :
    Calls Try.prog 12 #[.slice a0 len0 cap0, .slice a1 len1 cap1] w fun e w' => e = .returned (.bool true) ∧ Below w.heap.size w w' := by
  obtain ⟨l, hb⟩ := byt_of_row w0
  obtain ⟨l1, hb1⟩ := byt_of_row w1
  obtain ⟨i0, hi, hz0, hz1, hz2⟩ := info_parts info5
  have hcap : cap0 ≤ 9223372036854775807 := hb.2.2.2.1
  have hlc : len0 ≤ cap0 := hb.2.2.1
  have hcap1 : cap1 ≤ 9223372036854775807 := hb1.2.2.2.1
  have hlc1 : len1 ≤ cap1 := hb1.2.2.1
  have HB := Lib.hid hb
  have HB1 := Lib.hid hb1
  clear w0 w1 hb hb1
  by_cases hbig : 300 < len0 ∨ (¬ 300 < len0 ∧ 40 < len1)
  · rcases hbig with h | ⟨h, h'⟩
    all_goals
      go_enter Try.func12, Try.ntmps12
      go_wp2_with (go_at_call 25; refine (awake2_any _).mono ?_; rintro e w2 ⟨rfl, hbel⟩; have hB := Lib.hid hbel; clear hbel)
      go_ret
      exact ⟨rfl, hB.out⟩
  · have h1 : len0 ≤ 300 := by omega
    have h2 : len1 ≤ 40 := by omega
    clear hbig
    go_enter Try.func12, Try.ntmps12
    go_wp2_with fail
    refine (awake2_any _).mono ?_
    rintro e w2 ⟨rfl, hbel2⟩
    have B2 := Lib.hid hbel2
    clear hbel2
    go_wp2_with fail
    refine (New_any _ _ _ _ _ (HB.out.kept B2.out) (by omega)).mono ?_
    rintro e w3 ⟨f, g, rfl, hfl, hbel3, hf, hg⟩
    have HFl := Lib.hid hfl
    have B3 := Lib.hid hbel3
    clear hfl hbel3
    go_wp2_with fail
    refine (Cursor_ok w3 f g len0 l 0 (-1) 0 len0 HFl.out (by omega) (by omega)).mono ?_
    rintro e w4 ⟨c, rfl, hst, hc, hbel4⟩
    have HR0 : Hid (PRel w w4.heap.size f g c len0 l 0 0 (.slice none 0 0) w4) := Lib.hid (by
      have q2 := B2.out.size
      have q3 := B3.out.size
      have q4 := hbel4.size
      exact ⟨hst, World.ownsRow_nil _ _ _ _, (B2.out.trans (B3.out.mono q2)).trans (hbel4.mono (by omega)), hst.fl.blk.lt, hst.fl.byt.lt, hst.cu.lt, Nat.le_refl _, by omega, by omega, by omega, by omega⟩)
    obtain ⟨B, hBB⟩ : ∃ B, B = w4.heap.size := ⟨_, rfl⟩
    rw [← hBB] at HR0
    clear hst hbel4 hBB hc hf hg
    go_wp2_with fail
    go_loopw [9, 10] (fun v i wr => ∃ k a : Nat, k ≤ len1 ∧ a ≤ len0 ∧ i = .int .i64 k ∧ Hid (PRel w B f g c len0 l k a v wr)) (fun _ i _ => len1 - (intOf i).toNat)
    case atStart => exact ⟨0, 0, by omega, by omega, rfl, HR0⟩
    case round =>
      obtain ⟨k, a, hk, ha, rfl, HR⟩ := hrel
      by_cases hlt : k < len1
      · obtain ⟨b1, off1, rfl, hb1l, hck⟩ := byt_zero (HB1.out.kept HR.out.2.2.1) k hlt
        have hsx := getD_lt l1 k HB1.out.2.1
        obtain ⟨x, hx⟩ : ∃ x, x = l1.getD k 0 := ⟨_, rfl⟩
        rw [← hx] at hck hsx
        clear hx hb1l
        have HLq : Hid (∀ j, Calls Try.prog 35 #[.pointer (some ⟨c, 0, none⟩)] (wr.drewN j) fun e w' => e = .returned (.int .i64 ((len0 : Int) - (a : Int))) ∧ ∃ m, w' = wr.drewN m) := Lib.hid (fun j => left_quiet wr c f 0 len0 a HR.out.1.cu ha (by omega) j)
        obtain ⟨n, hn⟩ : ∃ n : Nat, n = min x (len0 - a) := ⟨_, rfl⟩
        have hnl : a + n ≤ len0 := by omega
        have hcase : (x ≤ len0 - a ∧ n = x) ∨ (len0 - a < x ∧ (n : Int) = (len0 : Int) - (a : Int)) := by omega
        clear hn
        have HS0 := Lib.hid HR.out.1
        have hcase2 : (x ≤ len0 - a ∧ n = x) ∨ (len0 - a < x ∧ (n : Int) ≤ (len0 : Int) - (a : Int) ∧ (len0 : Int) - (a : Int) ≤ n ∧ ((n : Int) != (len0 : Int) - (a : Int)) = false) := by
          rcases hcase with ⟨h1, h2⟩ | ⟨h1, h2⟩
          · exact .inl ⟨h1, h2⟩
          · exact .inr ⟨h1, by omega, by omega, by rw [h2]; simp⟩
        have hnn : ((n : Int) != (n : Int)) = false := by simp
        clear hcase
        rcases hcase2 with ⟨hc1, rfl⟩ | ⟨hc1, hc2, hc3, hc4⟩
        all_goals
          go_wp2
          go_quiet ((go_at_call 35; exact HLq.out _))
          go_wp2_with fail
          refine (Part_okI (wr.drewN nq) f g c len0 l k (-1) 0 len0 a _ _ (HS0.out.drewN nq) hnl (by omega)).mono ?_
          rintro e w5 ⟨p, rfl, hst5, hblk5, hp5, hfr5⟩
          have HS5 := Lib.hid hst5
          have HP5 := Lib.hid (St.mk hst5.fl hblk5 (Nat.le_refl _) (Nat.le_add_right _ _) hnl)
          have HF5 := Lib.hid hfr5.undrewN
          have HQ5 : Hid (wr.heap.size ≤ p) := Lib.hid hp5
          clear hst5 hblk5 hfr5 hp5
          go_wp2_with fail
          refine (Take_okI w5 f g p len0 l k (-1) a _ a _ _ HP5.out (Nat.le_refl _) (by omega) (.inl (by omega)) (by omega)).mono ?_
          rintro e w6 ⟨b, rfl, hby6, hst6, hfr6⟩
          have HB6 := Lib.hid hby6
          have HS6 := Lib.hid hst6
          have HF6 := Lib.hid hfr6
          clear hby6 hst6 hfr6
          go_wp2_with fail
          refine (Byte_bad w6 f g p len0 l (k + 1) (-1) a _ _ HS6.out (Nat.le_refl _)).mono ?_
          rintro e w7 ⟨rfl, k7, rfl⟩
          go_wp2_with fail
          refine (Left_any (w6.drewN k7) p f a _ _ (HS6.out.drewN k7).cu (Nat.le_refl _) (by omega)).mono ?_
          rintro e w8 ⟨rfl, k8, hk8⟩
          have HH8 : Hid (Fr (fun _ => False) w6 w8) := Lib.hid (by rw [← hk8]; exact ((Fr.refl _ _).drewN k7).drewN k8)
          clear hk8
          have HP := Lib.hid (PRel_mid HR.out HF5.out HQ5.out HF6.out HH8.out HS5.out HS6.out HB6.out)
          obtain ⟨X, hX⟩ : ∃ X, X = ((l.drop a).take n).map U8 := ⟨_, rfl⟩
          have hXl : X.length = n * 1 := by rw [hX, List.length_map, HB6.out.1, Nat.mul_one]
          have hXc : Hid (∀ j u, X[j]? = some u → w8.cell? ((⟨b, 0, none⟩ : Addr).add j) = some u) := Lib.hid (by
            rw [hX]; exact byt_cells HP.out.byt)
          have hX1 : Hid (∀ u ∈ X, u.oneCell' = true) := Lib.hid (by
            intro u hu
            rw [hX, List.mem_map] at hu
            obtain ⟨y, _, rfl⟩ := hu
            rfl)
          have hXE := Lib.hid hX
          have hXL := Lib.hid hXl
          clear hX hXl
          have hB8 : Hid (B ≤ w8.heap.size) := Lib.hid HP.out.hB
          go_wp2_with (at_builtin; refine wpList_append_own _ rfl (.tmp 97) (.tmp 98) 22 rfl B 5 i0 _ 1 1 Try.underlying22 hi hz0 hz1 hz2 rfl (by decide) _ a _ rfl HP.out.own ⟨b, 0, none⟩ n n X rfl hXL.out hXc.out hX1.out ?c3 ?c4 hB8.out ?_)
          case c3 => unfold maxLen; omega
          case c4 => omega
          intro v1 w9 hown9 hg9 _
          have HP9 : Hid (PRel w B f g c len0 l (k + 1) (a + n) v1 w9) := Lib.hid (PMid_step HP.out (by rw [← hXE.out, List.map_take]; exact hown9) hg9)
          clear hown9 hg9
          go_wp2
          go_roundw
          case rel => exact ⟨k + 1, a + n, by omega, by omega, by go_num, HP9⟩
          case measure => simp [intOf]; omega
      · have HS0 := Lib.hid HR.out.1
        have hE : Hid (((len0 - a : Nat) : Int) = (len0 : Int) - (a : Int)) := Lib.hid (by omega)
        go_wp2_with fail
        refine (Left_any wr c f 0 len0 a HS0.out.cu ha (by omega)).mono ?_
        rintro e w5 ⟨rfl, k5, rfl⟩
        go_wp2_with fail
        refine (Take_okI (wr.drewN k5) f g c len0 l k (-1) 0 len0 a (len0 - a) _ (HS0.out.drewN k5) (by omega) (by omega) (.inl (by omega)) hE.out.symm).mono ?_
        rintro e w6 ⟨b, rfl, hby6, hst6, hfr6⟩
        have HF := Lib.hid (PEnd HR.out hfr6.undrewN)
        have hc1 := conv_own HF.out.2 (fun x hx => HB.out.2.1 x (List.mem_of_mem_take hx))
        have hc2 := conv_byt hby6
        have hc3 := conv_byt (HB.out.kept HF.out.1)
        rw [show a + (len0 - a) = len0 by omega] at hst6
        have HS6 := Lib.hid hst6
        have hcat := str_cat l a len0 HB.out.1 ha
        have hsz : (str (l.take a)).size + (str ((l.drop a).take (len0 - a))).size ≤ 300 := by
          have := HB.out.1
          rw [str_size, str_size, List.length_take, List.length_take, List.length_drop]
          omega
        obtain ⟨S1, hS1⟩ : ∃ S, S = str (l.take a) := ⟨_, rfl⟩
        obtain ⟨S2, hS2⟩ : ∃ S, S = str ((l.drop a).take (len0 - a)) := ⟨_, rfl⟩
        obtain ⟨S3, hS3⟩ : ∃ S, S = str l := ⟨_, rfl⟩
        rw [← hS1] at hc1 hcat hsz
        rw [← hS2] at hc2 hcat hsz
        rw [← hS3] at hc3 hcat
        clear hby6 hst6 hfr6 hS1 hS2 hS3
        go_wp2_with fail
        refine (Left_any w6 c f 0 len0 len0 HS6.out.cu (Nat.le_refl _) (by omega)).mono ?_
        rintro e w7 ⟨rfl, k7, rfl⟩
        go_wp2_with fail
        go_ret
        exact ⟨rfl, below_drewN HF.out.1 _⟩

set_option maxRecDepth 100000 in
theorem flashParts_lifted (os : Os) (started : os.Started) (H : Type) (enc : TypeId × Value → H) :
    ReturnsInHanded {} Try.checked os 12 .any (Rows.flashPartsSpec.pre6 enc Try.prog Try.f12 Rows.flashPartsRow.domain false) (Rows.flashPartsSpec.post enc Try.prog Try.f12 false true false false) := by
  refine returnsInHanded_of_change (C := Try.checked) Try.own started (by kernel_rfl) Try.func12
    (ChangeSpec.witness6 (enc := enc) (C := Try.checked) false ⟨#[], #[.slice none 0 0, .slice none 0 0], []⟩ 8 (by kernel_rfl) (by kernel_rfl) (by kernel_rfl) (by kernel_rfl)) ?_
  intro W base args ds gs before hval0 hW hcnd _
  have hval : ∀ (j : Nat) t v, Try.f12.params[j]? = some t → args[j]? = some v → Value.okWide Try.prog W .any base t v := hval0
  have hW' := hW
  obtain ⟨p, q, hA0, hV, rfl, hfz, hnd⟩ := hW
  have hA : DataW.TrodAll enc Try.prog W 0 (fun _ => true) true Try.f12.params.toList args.toList ds p := hA0
  rw [Try.params12] at hA hval
  obtain ⟨v0, vs0, d0, ds0, p0, q0, hargs, rfl, rfl, h0, r0⟩ := trodAll_cons hA
  obtain ⟨v1, vs1, d1, ds1, p1, q1, rfl, rfl, rfl, h1, r1⟩ := trodAll_cons r0
  obtain ⟨rfl, rfl, rfl⟩ := trodAll_nil r1
  obtain rfl : args = #[v0, v1] := by cases args; simp_all
  obtain ⟨rfl, rfl⟩ := trodVars_none hV
  obtain ⟨a0, len0, cap0, rfl⟩ := okWide_slice Try.underlying22 (hval 0 22 v0 rfl rfl)
  have k0 := h0
  have lt0 : ∀ x ∈ p0, x.block < W.heap.size := by obtain ⟨m, hm⟩ := k0; exact DataW.trod_lt m _ _ _ hm
  obtain ⟨z0, w0⟩ : ∃ zs, IsRow .u8 W a0 len0 cap0 zs := by
    obtain ⟨fuel, hf⟩ := h0
    rcases open_ints Try.underlying22 Try.underlying5 (by kernel_rfl) hf with ⟨hcs, _⟩ | ⟨x, l, c, zs, hcs, _, hl, hm, hz, _, hcell, hwz⟩
    · simp [Value.cells] at hcs
      obtain ⟨rfl, rfl, rfl⟩ := hcs
      exact ⟨[], .inl ⟨rfl, rfl, rfl, rfl⟩⟩
    · simp [Value.cells] at hcs
      obtain ⟨rfl, rfl, rfl⟩ := hcs
      exact ⟨zs, .inr ⟨_, rfl, hl, hm, by simpa using hz, hcell, hwz⟩⟩
  obtain ⟨a1, len1, cap1, rfl⟩ := okWide_slice Try.underlying22 (hval 1 22 v1 rfl rfl)
  have k1 := h1
  have lt1 : ∀ x ∈ p1, x.block < W.heap.size := by obtain ⟨m, hm⟩ := k1; exact DataW.trod_lt m _ _ _ hm
  obtain ⟨z1, w1⟩ : ∃ zs, IsRow .u8 W a1 len1 cap1 zs := by
    obtain ⟨fuel, hf⟩ := h1
    rcases open_ints Try.underlying22 Try.underlying5 (by kernel_rfl) hf with ⟨hcs, _⟩ | ⟨x, l, c, zs, hcs, _, hl, hm, hz, _, hcell, hwz⟩
    · simp [Value.cells] at hcs
      obtain ⟨rfl, rfl, rfl⟩ := hcs
      exact ⟨[], .inl ⟨rfl, rfl, rfl, rfl⟩⟩
    · simp [Value.cells] at hcs
      obtain ⟨rfl, rfl, rfl⟩ := hcs
      exact ⟨zs, .inr ⟨_, rfl, hl, hm, by simpa using hz, hcell, hwz⟩⟩
  clear hA0 hval0
  refine (flashParts_walk a0 len0 cap0 z0 a1 len1 cap1 z1 W w0 w1).mono fun e W' ⟨he, bel⟩ => ?_
  subst he
  exact ⟨_, rfl, _, _, _, [], _, [], hW', trodAll_mk1 (shut_bool Try.underlying4 _), (trodAll_cons_mk (Below.trod Try.laidOut (by kernel_rfl) (of_decide_eq_true (by kernel_rfl)) k0 bel lt0) (trodAll_cons_mk (Below.trod Try.laidOut (by kernel_rfl) (of_decide_eq_true (by kernel_rfl)) k1 bel lt1) trodAll_mk0)), rfl, bel.frame _, fun h => by cases h⟩

theorem flashParts_over : Rows.flashPartsRow.holds Try.pinned (OpenSpec.ofChange Rows.flashPartsSpec) :=
  OpenClaim.holds_of_wide 12 Try.f12 rfl rfl rfl rfl rfl rfl rfl ⟨rfl, rfl, rfl, rfl, rfl⟩ rfl rfl rfl rfl rfl (by kernel_rfl) Try.func12 (by kernel_rfl)
    (of_decide_eq_true (by kernel_rfl)) (by unfold Func.isWrapper; first | (rw [if_pos (by decide +kernel)]; kernel_rfl) | (rw [if_neg (by decide +kernel)]; exact ⟨rfl, rfl⟩))
    (fun os started H enc _ => flashParts_lifted os started H enc)

theorem flashParts_proved : Rows.FlashPartsSaid := flashParts_over
#print axioms flashParts_proved
end Go.Proofs.Ytchdcimmbmphnaa
