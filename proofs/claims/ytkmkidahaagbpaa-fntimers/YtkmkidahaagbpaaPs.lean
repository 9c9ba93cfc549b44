/- Lists of lists of timers: what they read as, what is owned. -/
import Derived.Test.YtkmkidahaagbpaaUndo
namespace Go.Proofs.Ytkmkidahaagbpaa
open Go.RowKit
set_option linter.unusedSimpArgs false
set_option linter.unusedVariables false
theorem drewN_blw (w : World) (n : Nat) : Blw w (w.drewN n) := (Blw.refl w).drewN n
def pre (len : Nat → Nat) : Nat → Nat
  | 0 => 0
  | j + 1 => pre len j + len j
theorem pre_mono (len : Nat → Nat) {i j : Nat} (h : i ≤ j) : pre len i ≤ pre len j := by
  induction j with
  | zero => obtain rfl : i = 0 := by omega
            exact Nat.le_refl _
  | succ j ih =>
    by_cases e : i = j + 1
    · subst e; exact Nat.le_refl _
    · have := ih (by omega); simp only [pre]; omega
/-- Lists of leaves: how many, how long each, their pages, what they may. -/
structure PD where
  n : Nat
  len : Nat → Nat
  p : Nat → Nat → Int
  m : Nat → Nat → Int
abbrev PD.zero : PD := ⟨0, fun _ => 0, fun _ _ => 0, fun _ _ => 0⟩
abbrev PD.tot (D : PD) : Nat := pre D.len D.n
def PSAt (Y : Nat → Prop) (w : World) (ao : Option Addr) (D : PD) : Prop :=
  D.n ≤ 9223372036854775807 ∧ ∀ i, i < D.n → ∃ b o a c, ao = some ⟨b, o, none⟩ ∧ Y b ∧ w.cell? ⟨b, o + i, none⟩ = some (.slice a (D.len i) c) ∧ UndosAt Y w a (D.len i) (D.p i) (D.m i)
structure PSIn (X : Nat → Prop) (w : World) (b : Nat) (A : Nat → Option Addr) (c : Nat → Nat) (D : PD) (Z : Nat → Nat → Prop) : Prop where
  row : Row w b D.n (fun i => .slice (A i) (D.len i) (c i))
  own : ∀ i, i < D.n → UndosOwn (Z i) w (A i) (D.len i) (D.p i) (D.m i)
  sub : ∀ i, i < D.n → ∀ x, Z i x → X x ∧ x ≠ b
  dis : ∀ i j, i < D.n → j < D.n → i ≠ j → ∀ x, Z i x → ¬ Z j x
  hb : X b
def PSOwn (X : Nat → Prop) (w : World) (ao : Option Addr) (D : PD) : Prop :=
  D.n ≤ 9223372036854775807 ∧ (0 < D.n → ∃ b A c Z, ao = some ⟨b, 0, none⟩ ∧ PSIn X w b A c D Z)
theorem PSAt.mod {X Y : Nat → Prop} {w w' : World} {ao : Option Addr} {D : PD} (h : PSAt Y w ao D) (hb : Mod X w w') (hxy : ∀ k, Y k → ¬ X k) : PSAt Y w' ao D :=
  ⟨h.1, fun i hi => let ⟨b, o, a, c, h1, hY, h2, h3⟩ := h.2 i hi; ⟨b, o, a, c, h1, hY, hb.cell h2 (hxy _ hY), h3.mod hb hxy⟩⟩
theorem PSAt.blw {Y : Nat → Prop} {w w' : World} {ao : Option Addr} {D : PD} (h : PSAt Y w ao D) (hb : Blw w w') : PSAt Y w' ao D := h.mod (hb.mod (fun _ => False)) (fun _ _ => id)
theorem PSAt.mono {X Y : Nat → Prop} {w : World} {ao : Option Addr} {D : PD} (h : PSAt X w ao D) (hxy : ∀ b, X b → Y b) : PSAt Y w ao D :=
  ⟨h.1, fun i hi => let ⟨b, o, a, c, h1, hY, h2, h3⟩ := h.2 i hi; ⟨b, o, a, c, h1, hxy _ hY, h2, h3.mono hxy⟩⟩
theorem PSOwn.at {X : Nat → Prop} {w : World} {ao : Option Addr} {D : PD} (h : PSOwn X w ao D) : PSAt X w ao D := by
  refine ⟨h.1, fun i hi => ?_⟩
  obtain ⟨b, A, c, Z, rfl, S⟩ := h.2 (by omega)
  exact ⟨b, 0, A i, c i, rfl, S.hb, by rw [Nat.zero_add]; exact S.row.cell hi, (S.own i hi).at.mono (fun x hx => (S.sub i hi x hx).1)⟩
theorem PSIn.mod {X Q : Nat → Prop} {w w' : World} {b : Nat} {A : Nat → Option Addr} {c : Nat → Nat} {D : PD} {Z : Nat → Nat → Prop} (h : PSIn X w b A c D Z) (hm : Mod Q w w') (hx : ∀ x, X x → ¬ Q x) : PSIn X w' b A c D Z :=
  ⟨h.row.mod hm (hx _ h.hb), fun i hi => (h.own i hi).mod hm (fun x hz => hx x (h.sub i hi x hz).1), h.sub, h.dis, h.hb⟩
theorem PSOwn.mod {X Q : Nat → Prop} {w w' : World} {ao : Option Addr} {D : PD} (h : PSOwn X w ao D) (hm : Mod Q w w') (hx : ∀ x, X x → ¬ Q x) : PSOwn X w' ao D :=
  ⟨h.1, fun h0 => let ⟨b, A, c, Z, e, S⟩ := h.2 h0; ⟨b, A, c, Z, e, S.mod hm hx⟩⟩
theorem PSOwn.blw {X : Nat → Prop} {w w' : World} {ao : Option Addr} {D : PD} (h : PSOwn X w ao D) (hb : Blw w w') : PSOwn X w' ao D := h.mod (hb.mod (fun _ => False)) (fun _ _ => id)
theorem PSOwn.mono {X Y : Nat → Prop} {w : World} {ao : Option Addr} {D : PD} (h : PSOwn X w ao D) (hxy : ∀ b, X b → Y b) : PSOwn Y w ao D :=
  ⟨h.1, fun h0 => let ⟨b, A, c, Z, e, S⟩ := h.2 h0; ⟨b, A, c, Z, e, ⟨S.row, S.own, fun i hi x hx => ⟨hxy _ (S.sub i hi x hx).1, (S.sub i hi x hx).2⟩, S.dis, hxy _ S.hb⟩⟩⟩
theorem PSOwn.zero (X : Nat → Prop) (w : World) (ao : Option Addr) : PSOwn X w ao PD.zero := ⟨by show 0 ≤ _; omega, fun h => absurd h (Nat.not_lt_zero _)⟩
/-! ### The laws' functions on lists of lists of leaves -/
set_option maxHeartbeats 800000 in
theorem szSS_any (ao : Option Addr) (c0 : Nat) (D : PD) (Y : Nat → Prop) (left : Int) (w : World) (h0 : 0 ≤ left) (h1 : left ≤ 1048576) (h : PSAt Y w ao D) :
    Calls Try.prog 70 #[.slice ao D.n c0, .int .i64 left] w fun e w' => ∃ r : Int, e = .returned (.int .i64 r) ∧ Left left (D.n + D.tot : Nat) r ∧ Blw w w' := by
  obtain ⟨n, len, p, m⟩ := D
  obtain ⟨hn, h⟩ := h
  simp only [PD.tot] at hn h ⊢
  have H : Hid (∀ i, i < n → ∃ b o a c, ao = some ⟨b, o, none⟩ ∧ Y b ∧ w.cell? ⟨b, o + i, none⟩ = some (.slice a (len i) c) ∧ UndosAt Y w a (len i) (p i) (m i)) := h
  clear h
  by_cases hl : left - n < 0
  · go_enter Try.func70, Try.ntmps70
    go_wp2
    go_ret
    exact ⟨_, rfl, Or.inl rfl, Blw.refl _⟩
  have hl2 : ¬ wrap64 (left - n) < 0 := by unfold wrap64; omega
  have hl3 : wrap64 (left - n) = left - n := by unfold wrap64; omega
  go_enter Try.func70, Try.ntmps70
  go_wp2
  go_loopw [1, 5] (fun kk i wr => ∃ (j : Nat) (r : Int), j ≤ n ∧ i = .int .i64 j ∧ kk = .int .i64 r ∧ 0 ≤ r ∧ r + (n + pre len j : Nat) ≤ left ∧ Blw w wr) (fun _ i _ => n - (intOf i).toNat)
  case atStart => exact ⟨0, left - n, Nat.zero_le _, rfl, rfl, by omega, by simp [pre], Blw.refl _⟩
  case round =>
    obtain ⟨j, r, hj, rfl, rfl, hr0, hr1, hb⟩ := hrel
    by_cases hlt : j < n
    · obtain ⟨b, o, a, c, e, -, g1, g2⟩ := H.out j hlt
      subst e
      replace g1 := hb.cell g1
      have hlen := g2.1
      have HP : Hid (pre len (j + 1) = pre len j + len j) := rfl
      have HB : Hid (Blw w wr) := hb
      have HR1 : Hid (r + (n + pre len j : Nat) ≤ left) := hr1
      have hr2 : r ≤ 1048576 := by omega
      clear g2 hb hl hl2 hl3 hr1
      generalize len j = lj at *
      go_wp2_with fail
      refine (szUndoS_any _ _ _ _ _ hlen (by omega) (by omega)).mono ?_
      rintro e w1 ⟨r2, rfl, hr3, hb1⟩
      replace HB : Hid (Blw w w1) := HB.out.trans hb1
      clear hb1 g1
      rcases hr3 with rfl | ⟨q0, q1⟩
      · go_wp2
        go_ret
        exact ⟨_, rfl, Or.inl rfl, HB.out⟩
      · have hnn : ¬ r2 < 0 := by omega
        go_wp2
        go_roundw
        case rel => exact ⟨j + 1, r2, by omega, by go_num, rfl, q0, by have := HR1.out; rw [HP.out]; omega, HB.out⟩
        case measure => simp [intOf]; omega
    · obtain rfl : j = n := by omega
      go_wp2
      go_ret
      exact ⟨_, rfl, Or.inr ⟨hr0, hr1⟩, hb⟩
def markedTo (D : PD) (k : Int) (j : Nat) : PD := ⟨D.n, D.len, fun i t => if i < j then mkc (k + 2 * pre D.len i) t else D.p i t, fun i t => if i < j then mkw (k + 2 * pre D.len i) t else D.m i t⟩
def PD.marked (D : PD) (k : Int) : PD := ⟨D.n, D.len, fun i => mkc (k + 2 * pre D.len i), fun i => mkw (k + 2 * pre D.len i)⟩
theorem ss_step {X : Nat → Prop} {wr w1 : World} {j b : Nat} {A : Nat → Option Addr} {c : Nat → Nat} {D : PD} {Z : Nat → Nat → Prop} {k : Int} (hj : j < D.n) (S : PSIn X wr b A c (markedTo D k j) Z)
    (ho : UndosOwn (Z j) w1 (A j) (D.len j) (mkc (k + 2 * pre D.len j)) (mkw (k + 2 * pre D.len j))) (hm : Mod (Z j) wr w1) : PSIn X w1 b A c (markedTo D k (j + 1)) Z := by
  have hj' : j < (markedTo D k j).n := hj
  refine ⟨S.row.mod hm (fun e => (S.sub j hj' _ e).2 rfl), fun i hi => ?_, S.sub, S.dis, S.hb⟩
  have hi' : i < (markedTo D k j).n := hi
  show UndosOwn (Z i) w1 (A i) (D.len i) (fun t => if i < j + 1 then mkc (k + 2 * pre D.len i) t else D.p i t) (fun t => if i < j + 1 then mkw (k + 2 * pre D.len i) t else D.m i t)
  by_cases e : i = j
  · subst e
    exact ho.congr (fun t ht => by rw [if_pos (by omega), if_pos (by omega)]; exact ⟨rfl, rfl⟩)
  · have := (S.own i hi').mod hm (fun x hx hz => S.dis i j hi' hj' e x hx hz)
    refine this.congr (fun t ht => ?_)
    show (if i < j then mkc (k + 2 * pre D.len i) t else D.p i t) = (if i < j + 1 then mkc (k + 2 * pre D.len i) t else D.p i t) ∧ (if i < j then mkw (k + 2 * pre D.len i) t else D.m i t) = (if i < j + 1 then mkw (k + 2 * pre D.len i) t else D.m i t)
    by_cases h2 : i < j
    · rw [if_pos h2, if_pos (by omega), if_pos h2, if_pos (by omega)]; exact ⟨rfl, rfl⟩
    · rw [if_neg h2, if_neg (by omega), if_neg h2, if_neg (by omega)]; exact ⟨rfl, rfl⟩
theorem marked_ahead {D : PD} {k : Int} {X : Nat → Prop} {w : World} {ao : Option Addr} (h : PSOwn X w ao D) : PSOwn X w ao (markedTo D k 0) :=
  ⟨h.1, fun h0 => let ⟨b, A, c, Z, e, S⟩ := h.2 h0; ⟨b, A, c, Z, e, ⟨S.row, fun i hi => (S.own i hi).congr (fun t ht => ⟨by show _ = if i < 0 then mkc (k + 2 * pre D.len i) t else D.p i t; rw [if_neg (by omega)], by show _ = if i < 0 then mkw (k + 2 * pre D.len i) t else D.m i t; rw [if_neg (by omega)]⟩), S.sub, S.dis, S.hb⟩⟩⟩
theorem marked_end {D : PD} {k : Int} {X : Nat → Prop} {w : World} {ao : Option Addr} (h : PSOwn X w ao (markedTo D k D.n)) : PSOwn X w ao (D.marked k) :=
  ⟨h.1, fun h0 => let ⟨b, A, c, Z, e, S⟩ := h.2 h0; ⟨b, A, c, Z, e, ⟨S.row, fun i hi => (S.own i hi).congr (fun t ht => ⟨by show (if i < D.n then mkc (k + 2 * pre D.len i) t else D.p i t) = _; exact if_pos hi, by show (if i < D.n then mkw (k + 2 * pre D.len i) t else D.m i t) = _; exact if_pos hi⟩), S.sub, S.dis, S.hb⟩⟩⟩
set_option maxHeartbeats 800000 in
theorem markSS_any (ao : Option Addr) (c0 : Nat) (D : PD) (X : Nat → Prop) (k : Int) (w : World) (hk0 : 0 ≤ k) (hk : k + 2 * D.tot ≤ 9223372036854775807) (h : PSOwn X w ao D) :
    Calls Try.prog 68 #[.slice ao D.n c0, .int .i64 k] w fun e w' => e = .returned (.int .i64 (k + 2 * D.tot)) ∧ PSOwn X w' ao (D.marked k) ∧ Mod X w w' := by
  obtain ⟨n, len, p, m⟩ := D
  have hn := h.1
  simp only [PD.tot] at hn hk ⊢
  go_enter Try.func68, Try.ntmps68
  go_wp2
  go_loopw [1, 5] (fun kk i wr => ∃ j : Nat, j ≤ n ∧ i = .int .i64 j ∧ kk = .int .i64 (k + 2 * pre len j) ∧ PSOwn X wr ao (markedTo ⟨n, len, p, m⟩ k j) ∧ Mod X w wr) (fun _ i _ => n - (intOf i).toNat)
  case atStart => exact ⟨0, Nat.zero_le _, rfl, by simp [pre], marked_ahead h, Mod.refl _ _⟩
  case round =>
    obtain ⟨j, hj, rfl, rfl, ho, hm⟩ := hrel
    by_cases hlt : j < n
    · obtain ⟨b, A, c, Z, e, S⟩ := ho.2 (show 0 < n by omega)
      have hjn : j < (markedTo ⟨n, len, p, m⟩ k j).n := hlt
      have IOJ : Hid (UndosOwn (Z j) wr (A j) (len j) (p j) (m j)) := (S.own j hjn).congr (fun t ht => ⟨by show (if j < j then mkc (k + 2 * pre len j) t else p j t) = _; rw [if_neg (by omega)], by show (if j < j then mkw (k + 2 * pre len j) t else m j t) = _; rw [if_neg (by omega)]⟩)
      have HSUB : Hid (∀ x, Z j x → X x ∧ x ≠ b) := S.sub j hjn
      have g1 : wr.cell? ⟨b, j, none⟩ = some (.slice (A j) (len j) (c j)) := S.row.cell hjn
      have hp : pre len (j + 1) ≤ pre len n := pre_mono len (by omega)
      have hp1 : pre len (j + 1) = pre len j + len j := rfl
      have HP : Hid (pre len (j + 1) = pre len j + len j) := hp1
      have hb2 : (pre len j : Int) + len j ≤ pre len n := by omega
      clear hp hp1
      subst e
      have HS : Hid (PSIn X wr b A c (markedTo ⟨n, len, p, m⟩ k j) Z) := S
      have HM : Hid (Mod X w wr) := hm
      clear h ho S hjn hm
      go_wp2_with fail
      refine (markUndoS_any _ _ _ (p j) (m j) _ _ _ (by omega) (by omega) IOJ.out).mono ?_
      rintro e w1 ⟨rfl, ho1, hm1⟩
      have R : Hid (PSIn X w1 b A c (markedTo ⟨n, len, p, m⟩ k (j + 1)) Z) := ss_step (D := ⟨n, len, p, m⟩) hlt HS.out ho1 hm1
      have hm2 : Hid (Mod X w w1) := HM.out.trans (hm1.mono (fun x hx => (HSUB.out x hx).1))
      clear HS IOJ ho1 hm1 g1 HM
      go_wp2
      go_roundw
      case rel => exact ⟨j + 1, by omega, by go_num, by rw [HP.out]; go_num, ⟨hn, fun _ => ⟨b, A, c, Z, rfl, R.out⟩⟩, hm2.out⟩
      case measure => simp [intOf]; omega
    · obtain rfl : j = n := by omega
      have HO : Hid (PSOwn X wr ao (markedTo ⟨j, len, p, m⟩ k j)) := ho
      have HM : Hid (Mod X w wr) := hm
      clear ho hm h
      go_wp2
      go_ret
      exact ⟨rfl, marked_end (D := ⟨j, len, p, m⟩) HO.out, HM.out⟩
set_option maxHeartbeats 800000 in
theorem heldSS_any (ao : Option Addr) (c0 : Nat) (D : PD) (X : Nat → Prop) (k : Int) (w : World) (hk0 : 0 ≤ k) (hk : k + 2 * D.tot ≤ 9223372036854775807) (h : PSOwn X w ao (D.marked k)) :
    Calls Try.prog 69 #[.slice ao D.n c0, .int .i64 k] w fun e w' => e = .returned (.int .i64 (k + 2 * D.tot)) ∧ Blw w w' := by
  obtain ⟨n, len, p, m⟩ := D
  have hn := h.1
  simp only [PD.tot, PD.marked] at hn hk h ⊢
  have H : Hid (PSOwn X w ao ⟨n, len, fun i => mkc (k + 2 * pre len i), fun i => mkw (k + 2 * pre len i)⟩) := h
  clear h
  go_enter Try.func69, Try.ntmps69
  go_wp2
  go_loopw [1, 5] (fun kk i wr => ∃ j : Nat, j ≤ n ∧ i = .int .i64 j ∧ kk = .int .i64 (k + 2 * pre len j) ∧ Blw w wr) (fun _ i _ => n - (intOf i).toNat)
  case atStart => exact ⟨0, Nat.zero_le _, rfl, by simp [pre], Blw.refl _⟩
  case round =>
    obtain ⟨j, hj, rfl, rfl, hb⟩ := hrel
    by_cases hlt : j < n
    · obtain ⟨b, A, c, Z, e, S⟩ := H.out.2 (show 0 < n by omega)
      subst e
      have g1 : wr.cell? ⟨b, j, none⟩ = some (.slice (A j) (len j) (c j)) := hb.cell (S.row.cell hlt)
      have G2 : Hid (UndosOwn (Z j) wr (A j) (len j) (mkc (k + 2 * pre len j)) (mkw (k + 2 * pre len j))) := (S.own j hlt).blw hb
      have hp : pre len (j + 1) ≤ pre len n := pre_mono len (by omega)
      have hp1 : pre len (j + 1) = pre len j + len j := rfl
      have HP : Hid (pre len (j + 1) = pre len j + len j) := hp1
      have hb2 : (pre len j : Int) + len j ≤ pre len n := by omega
      have hb3 : 0 ≤ k + 2 * pre len j + 2 * len j := by omega
      clear H hp hp1 S
      go_wp2_with fail
      refine (heldUndoS_any _ _ _ (Z j) _ _ (by omega) (by omega) G2.out).mono ?_
      rintro e w1 ⟨rfl, hb1⟩
      replace hb := hb.trans hb1
      clear g1 G2 hb1
      go_wp2
      go_roundw
      case rel => exact ⟨j + 1, by omega, by go_num, by rw [HP.out]; go_num, hb⟩
      case measure => simp [intOf]; omega
    · obtain rfl : j = n := by omega
      go_wp2
      go_ret
      exact ⟨rfl, hb⟩
set_option maxHeartbeats 800000 in
theorem eqSS_same (a1 a2 : Option Addr) (c1 c2 : Nat) (D : PD) {Y Z : Nat → Prop} (w : World) (h1 : PSAt Y w a1 D) (h2 : PSAt Z w a2 D) :
    Calls Try.prog 67 #[.slice a1 D.n c1, .slice a2 D.n c2] w fun e w' => e = .returned (.bool true) ∧ Blw w w' := by
  obtain ⟨n0, len, f, g⟩ := D
  obtain ⟨hl, h1⟩ := h1
  obtain ⟨-, h2⟩ := h2
  dsimp only at hl h1 h2 ⊢
  go_enter Try.func67, Try.ntmps67
  go_wp2
  go_loopw [5] (fun i wr => ∃ k : Nat, k ≤ n0 ∧ i = .int .i64 k ∧ Blw w wr) (fun i _ => n0 - (intOf i).toNat)
  case atStart => exact ⟨0, Nat.zero_le _, rfl, Blw.refl _⟩
  case round =>
    obtain ⟨k, hk, rfl, hb⟩ := hrel
    by_cases hlt : k < n0
    · obtain ⟨b, o, e, ce, rfl, -, g1, k1⟩ := h1 k hlt
      obtain ⟨b', o', e', ce', rfl, -, g2, k2⟩ := h2 k hlt
      replace g1 := hb.cell g1
      replace g2 := hb.cell g2
      have K1 : Hid (UndosAt Y wr e (len k) (f k) (g k)) := k1.blw hb
      have K2 : Hid (UndosAt Z wr e' (len k) (f k) (g k)) := k2.blw hb
      clear h1 h2 k1 k2
      generalize len k = lk at *
      go_wp2
      go_region_with (go_at_call 43; refine (eqUndoS_same _ _ _ _ lk (f k) (g k) _ (K1.out.blw (Blw.refl _).drew) (K2.out.blw (Blw.refl _).drew)).mono ?_; rintro e w' ⟨rfl, hb2⟩)
      all_goals go_wp2
      all_goals go_roundw
      all_goals first | exact ⟨k + 1, by omega, by go_num, hb.trans ((Blw.refl _).drew.trans (by assumption))⟩ | (simp [intOf]; omega)
    · go_wp2
      go_ret
      exact ⟨rfl, hb⟩
end Go.Proofs.Ytkmkidahaagbpaa
