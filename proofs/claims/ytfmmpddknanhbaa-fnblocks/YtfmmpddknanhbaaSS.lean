/- Lists of lists of numbers: what the law says of them. -/
import Derived.Test.YtfmmpddknanhbaaLawI
import Derived.Test.YtfmmpddknanhbaaBuf
namespace Go.Proofs.Ytfmmpddknanhbaa
open Go.RowKit
set_option linter.unusedSimpArgs false
set_option linter.unusedVariables false
def pre (len : Nat → Nat) : Nat → Nat
  | 0 => 0
  | j + 1 => pre len j + len j
theorem pre_mono (len : Nat → Nat) {i j : Nat} (h : i ≤ j) : pre len i ≤ pre len j := by
  induction j with
  | zero => obtain rfl : i = 0 := by omega
            exact Nat.le_refl _
  | succ j ih =>
    by_cases e : i = j + 1
    · subst e; exact Nat.le_refl _
    · have := ih (by omega); simp only [pre]; omega
/-- A list of lists: how many, how long each, what they hold. -/
structure SD where
  n : Nat
  len : Nat → Nat
  f : Nat → Nat → Int
abbrev SD.zero : SD := ⟨0, fun _ => 0, fun _ _ => 0⟩
abbrev SD.total (D : SD) : Nat := pre D.len D.n
def SSAt (Y : Nat → Prop) (w : World) (ao : Option Addr) (D : SD) : Prop := LinesAt Y w ao D.n D.len D.f
structure SSIn (X : Nat → Prop) (w : World) (b : Nat) (A : Nat → Option Addr) (c : Nat → Nat) (D : SD) (Z : Nat → Nat → Prop) : Prop where
  row : Row w b D.n (fun i => .slice (A i) (D.len i) (c i))
  own : ∀ i, i < D.n → IntsOwn (Z i) w (A i) (D.len i) (D.f i)
  sub : ∀ i, i < D.n → ∀ x, Z i x → X x ∧ x ≠ b
  dis : ∀ i j, i < D.n → j < D.n → i ≠ j → ∀ x, Z i x → ¬ Z j x
  hb : X b
def SSOwn (X : Nat → Prop) (w : World) (ao : Option Addr) (D : SD) : Prop :=
  D.n ≤ 9223372036854775807 ∧ (0 < D.n → ∃ b A c Z, ao = some ⟨b, 0, none⟩ ∧ SSIn X w b A c D Z)
theorem SSOwn.at {X : Nat → Prop} {w : World} {ao : Option Addr} {D : SD} (h : SSOwn X w ao D) : SSAt X w ao D := by
  refine ⟨h.1, fun i hi => ?_⟩
  obtain ⟨b, A, c, Z, rfl, S⟩ := h.2 (by omega)
  exact ⟨b, 0, A i, c i, rfl, S.hb, by rw [Nat.zero_add]; exact S.row.cell hi, (S.own i hi).at.mono (fun x hx => (S.sub i hi x hx).1)⟩
theorem SSIn.mod {X Q : Nat → Prop} {w w' : World} {b : Nat} {A : Nat → Option Addr} {c : Nat → Nat} {D : SD} {Z : Nat → Nat → Prop} (h : SSIn X w b A c D Z) (hm : Mod Q w w') (hx : ∀ x, X x → ¬ Q x) : SSIn X w' b A c D Z :=
  ⟨h.row.mod hm (hx _ h.hb), fun i hi => (h.own i hi).mod hm (fun x hz => hx x (h.sub i hi x hz).1), h.sub, h.dis, h.hb⟩
theorem SSOwn.mod {X Q : Nat → Prop} {w w' : World} {ao : Option Addr} {D : SD} (h : SSOwn X w ao D) (hm : Mod Q w w') (hx : ∀ x, X x → ¬ Q x) : SSOwn X w' ao D :=
  ⟨h.1, fun h0 => let ⟨b, A, c, Z, e, S⟩ := h.2 h0; ⟨b, A, c, Z, e, S.mod hm hx⟩⟩
theorem SSOwn.blw {X : Nat → Prop} {w w' : World} {ao : Option Addr} {D : SD} (h : SSOwn X w ao D) (hb : Blw w w') : SSOwn X w' ao D := h.mod (hb.mod (fun _ => False)) (fun _ _ => id)
theorem SSOwn.mono {X Y : Nat → Prop} {w : World} {ao : Option Addr} {D : SD} (h : SSOwn X w ao D) (hxy : ∀ b, X b → Y b) : SSOwn Y w ao D :=
  ⟨h.1, fun h0 => let ⟨b, A, c, Z, e, S⟩ := h.2 h0; ⟨b, A, c, Z, e, ⟨S.row, S.own, fun i hi x hx => ⟨hxy _ (S.sub i hi x hx).1, (S.sub i hi x hx).2⟩, S.dis, hxy _ S.hb⟩⟩⟩
theorem SSOwn.zero (X : Nat → Prop) (w : World) (ao : Option Addr) : SSOwn X w ao SD.zero := ⟨by show 0 ≤ _; omega, fun h => absurd h (Nat.not_lt_zero _)⟩
theorem SSAt.mod {X Y : Nat → Prop} {w w' : World} {ao : Option Addr} {D : SD} (h : SSAt Y w ao D) (hb : Mod X w w') (hxy : ∀ k, Y k → ¬ X k) : SSAt Y w' ao D := LinesAt.mod h hb hxy
theorem SSAt.mono {X Y : Nat → Prop} {w : World} {ao : Option Addr} {D : SD} (h : SSAt X w ao D) (hxy : ∀ b, X b → Y b) : SSAt Y w ao D := LinesAt.mono h hxy
theorem SSAt.st {Y : Nat → Prop} {W : World} {ao : Option Addr} {D : SD} (h : SSAt Y W ao D) (hY : ∀ b, Y b → b < W.heap.size) : St Y (fun W => SSAt Y W ao D) W := ⟨hY, fun _ _ hm hx => h.mod hm hx⟩
theorem SSOwn.st {Y : Nat → Prop} {W : World} {ao : Option Addr} {D : SD} (h : SSOwn Y W ao D) (hY : ∀ b, Y b → b < W.heap.size) : St Y (fun W => SSOwn Y W ao D) W := ⟨hY, fun _ _ hm hx => h.mod hm hx⟩
def markedTo (D : SD) (k : Int) (j : Nat) : SD := ⟨D.n, D.len, fun i t => if i < j then k + pre D.len i + t else D.f i t⟩
def SD.marked (D : SD) (k : Int) : SD := ⟨D.n, D.len, fun i t => k + pre D.len i + t⟩
theorem ss_step {X : Nat → Prop} {wr w1 : World} {j b : Nat} {A : Nat → Option Addr} {c : Nat → Nat} {D : SD} {Z : Nat → Nat → Prop} {k : Int} (hj : j < D.n) (S : SSIn X wr b A c (markedTo D k j) Z)
    (ho : IntsOwn (Z j) w1 (A j) (D.len j) (fun t => k + pre D.len j + t)) (hm : Mod (fun x => Z j x ∧ 0 < D.len j) wr w1) : SSIn X w1 b A c (markedTo D k (j + 1)) Z := by
  have hj' : j < (markedTo D k j).n := hj
  refine ⟨S.row.mod hm (fun e => (S.sub j hj' _ e.1).2 rfl), fun i hi => ?_, S.sub, S.dis, S.hb⟩
  have hi' : i < (markedTo D k j).n := hi
  show IntsOwn (Z i) w1 (A i) (D.len i) (fun t => if i < j + 1 then k + pre D.len i + t else D.f i t)
  by_cases e : i = j
  · subst e
    exact ho.congr (fun t ht => by rw [if_pos (by omega)])
  · have := (S.own i hi').mod hm (fun x hx hz => S.dis i j hi' hj' e x hx hz.1)
    refine this.congr (fun t ht => ?_)
    show (if i < j then _ else _) = if i < j + 1 then _ else _
    by_cases h2 : i < j
    · rw [if_pos h2, if_pos (by omega)]
    · rw [if_neg h2, if_neg (by omega)]
theorem marked_ahead {D : SD} {k : Int} {X : Nat → Prop} {w : World} {ao : Option Addr} (h : SSOwn X w ao D) : SSOwn X w ao (markedTo D k 0) :=
  ⟨h.1, fun h0 => let ⟨b, A, c, Z, e, S⟩ := h.2 h0; ⟨b, A, c, Z, e, ⟨S.row, fun i hi => (S.own i hi).congr (fun t ht => by show _ = if i < 0 then k + pre D.len i + t else D.f i t; rw [if_neg (by omega)]), S.sub, S.dis, S.hb⟩⟩⟩
theorem marked_end {D : SD} {k : Int} {X : Nat → Prop} {w : World} {ao : Option Addr} (h : SSOwn X w ao (markedTo D k D.n)) : SSOwn X w ao (D.marked k) :=
  ⟨h.1, fun h0 => let ⟨b, A, c, Z, e, S⟩ := h.2 h0; ⟨b, A, c, Z, e, ⟨S.row, fun i hi => (S.own i hi).congr (fun t ht => by show (if i < D.n then k + pre D.len i + t else D.f i t) = _; exact if_pos hi), S.sub, S.dis, S.hb⟩⟩⟩
set_option maxHeartbeats 800000 in
theorem markSS_any (ao : Option Addr) (c0 : Nat) (D : SD) (X : Nat → Prop) (k : Int) (w : World) (hk0 : 0 ≤ k) (hk : k + D.total ≤ 9223372036854775807) (h : SSOwn X w ao D) :
    Calls Try.prog 51 #[.slice ao D.n c0, .int .i64 k] w fun e w' => e = .returned (.int .i64 (k + D.total)) ∧ SSOwn X w' ao (D.marked k) ∧ Mod X w w' := by
  obtain ⟨n, len, v⟩ := D
  have hn := h.1
  simp only [SD.total] at hn hk ⊢
  go_enter Try.func51, Try.ntmps51
  go_wp2
  go_loopw [1, 5] (fun kk i wr => ∃ j : Nat, j ≤ n ∧ i = .int .i64 j ∧ kk = .int .i64 (k + pre len j) ∧ SSOwn X wr ao (markedTo ⟨n, len, v⟩ k j) ∧ Mod X w wr) (fun _ i _ => n - (intOf i).toNat)
  case atStart => exact ⟨0, Nat.zero_le _, rfl, by simp [pre], marked_ahead h, Mod.refl _ _⟩
  case round =>
    obtain ⟨j, hj, rfl, rfl, ho, hm⟩ := hrel
    by_cases hlt : j < n
    · obtain ⟨b, A, c, Z, e, S⟩ := ho.2 (show 0 < n by omega)
      have hjn : j < (markedTo ⟨n, len, v⟩ k j).n := hlt
      have ioj : IntsOwn (Z j) wr (A j) (len j) (v j) := (S.own j hjn).congr (fun t ht => by show (if j < j then _ else _) = _; rw [if_neg (by omega)])
      have IOJ : Hid (IntsOwn (Z j) wr (A j) (len j) (v j)) := ioj
      have HSUB : Hid (∀ x, Z j x → X x ∧ x ≠ b) := S.sub j hjn
      have g1 : wr.cell? ⟨b, j, none⟩ = some (.slice (A j) (len j) (c j)) := S.row.cell hjn
      have hp : pre len (j + 1) ≤ pre len n := pre_mono len (by omega)
      have hp1 : pre len (j + 1) = pre len j + len j := rfl
      have HP : Hid (pre len (j + 1) = pre len j + len j) := hp1
      have hb2 : (pre len j : Int) + len j ≤ pre len n := by omega
      clear hp hp1
      subst e
      have HS : Hid (SSIn X wr b A c (markedTo ⟨n, len, v⟩ k j) Z) := S
      have HM : Hid (Mod X w wr) := hm
      clear h ho S ioj hjn hm
      go_wp2_with fail
      refine (markIntS_any _ _ _ (v j) _ _ _ (by omega) (by omega) IOJ.out).mono ?_
      rintro e w1 ⟨rfl, ho1, hm1⟩
      have R : Hid (SSIn X w1 b A c (markedTo ⟨n, len, v⟩ k (j + 1)) Z) := ss_step (D := ⟨n, len, v⟩) hlt HS.out ho1 hm1
      have hm2 : Hid (Mod X w w1) := HM.out.trans (hm1.mono (fun x hx => (HSUB.out x hx.1).1))
      clear HS IOJ ho1 hm1 g1 HM
      go_wp2
      go_roundw
      case rel => exact ⟨j + 1, by omega, by go_num, by rw [HP.out]; go_num, ⟨hn, fun _ => ⟨b, A, c, Z, rfl, R.out⟩⟩, hm2.out⟩
      case measure => simp [intOf]; omega
    · obtain rfl : j = n := by omega
      have HO : Hid (SSOwn X wr ao (markedTo ⟨j, len, v⟩ k j)) := ho
      have HM : Hid (Mod X w wr) := hm
      clear ho hm h
      go_wp2
      go_ret
      exact ⟨rfl, marked_end (D := ⟨j, len, v⟩) HO.out, HM.out⟩
set_option maxHeartbeats 800000 in
theorem heldSS_any (ao : Option Addr) (c0 : Nat) (D : SD) (Y : Nat → Prop) (k : Int) (w : World) (hk0 : 0 ≤ k) (hk : k + D.total ≤ 9223372036854775807) (h : SSAt Y w ao (D.marked k)) :
    Calls Try.prog 52 #[.slice ao D.n c0, .int .i64 k] w fun e w' => e = .returned (.int .i64 (k + D.total)) ∧ Blw w w' := by
  obtain ⟨n, len, v⟩ := D
  obtain ⟨hn, h⟩ := h
  simp only [SD.total, SD.marked] at hn hk h ⊢
  have H : Hid (∀ i, i < n → ∃ b o a c, ao = some ⟨b, o, none⟩ ∧ Y b ∧ w.cell? ⟨b, o + i, none⟩ = some (.slice a (len i) c) ∧ IntsAt Y w a (len i) (fun t => k + pre len i + t)) := h
  clear h
  go_enter Try.func52, Try.ntmps52
  go_wp2
  go_loopw [1, 5] (fun kk i wr => ∃ j : Nat, j ≤ n ∧ i = .int .i64 j ∧ kk = .int .i64 (k + pre len j) ∧ Blw w wr) (fun _ i _ => n - (intOf i).toNat)
  case atStart => exact ⟨0, Nat.zero_le _, rfl, by simp [pre], Blw.refl _⟩
  case round =>
    obtain ⟨j, hj, rfl, rfl, hb⟩ := hrel
    by_cases hlt : j < n
    · obtain ⟨b, o, a, c, e, -, g1, g2⟩ := H.out j hlt
      subst e
      replace g1 := hb.cell g1
      have G2 : Hid (IntsAt Y wr a (len j) (fun t => k + pre len j + t)) := g2.blw hb
      have hp : pre len (j + 1) ≤ pre len n := pre_mono len (by omega)
      have hp1 : pre len (j + 1) = pre len j + len j := rfl
      have HP : Hid (pre len (j + 1) = pre len j + len j) := hp1
      have hb2 : (pre len j : Int) + len j ≤ pre len n := by omega
      have hb3 : 0 ≤ k + pre len j + len j := by omega
      clear H hp hp1 g2
      go_wp2_with fail
      refine (heldIntS_any _ _ _ Y _ _ (by omega) (by omega) G2.out).mono ?_
      rintro e w1 ⟨rfl, hb1⟩
      replace hb := hb.trans hb1
      clear g1 G2 hb1
      go_wp2
      go_roundw
      case rel => exact ⟨j + 1, by omega, by go_num, by rw [HP.out]; go_num, hb⟩
      case measure => simp [intOf]; omega
    · obtain rfl : j = n := by omega
      go_wp2
      go_ret
      exact ⟨rfl, hb⟩
theorem eqIntS_blw (a1 a2 : Option Addr) (c1 c2 : Nat) (n0 : Nat) (f : Nat → Int) {Y Z : Nat → Prop} (w : World) (h1 : IntsAt Y w a1 n0 f) (h2 : IntsAt Z w a2 n0 f) :
    Calls Try.prog 47 #[.slice a1 n0 c1, .slice a2 n0 c2] w fun e w' => e = .returned (.bool true) ∧ Blw w w' :=
  (eqIntS_same a1 a2 c1 c2 n0 f w h1 h2).mono fun e w' ⟨h1, n, h2⟩ => ⟨h1, by rw [h2]; exact drewN_blw _ _⟩
set_option maxHeartbeats 800000 in
theorem eqSS_same (a1 a2 : Option Addr) (c1 c2 : Nat) (D : SD) {Y Z : Nat → Prop} (w : World) (h1 : SSAt Y w a1 D) (h2 : SSAt Z w a2 D) :
    Calls Try.prog 50 #[.slice a1 D.n c1, .slice a2 D.n c2] w fun e w' => e = .returned (.bool true) ∧ Blw w w' := by
  obtain ⟨n0, len, f⟩ := D
  obtain ⟨hl, h1⟩ := h1
  obtain ⟨-, h2⟩ := h2
  dsimp only at hl h1 h2 ⊢
  go_enter Try.func50, Try.ntmps50
  go_wp2
  go_loopw [5] (fun i wr => ∃ k : Nat, k ≤ n0 ∧ i = .int .i64 k ∧ Blw w wr) (fun i _ => n0 - (intOf i).toNat)
  case atStart => exact ⟨0, Nat.zero_le _, rfl, Blw.refl _⟩
  case round =>
    obtain ⟨k, hk, rfl, hb⟩ := hrel
    by_cases hlt : k < n0
    · obtain ⟨b, o, e, ce, rfl, -, g1, k1⟩ := h1 k hlt
      obtain ⟨b', o', e', ce', rfl, -, g2, k2⟩ := h2 k hlt
      replace g1 := hb.cell g1
      replace g2 := hb.cell g2
      replace k1 := k1.blw hb
      replace k2 := k2.blw hb
      clear h1 h2
      generalize len k = lk at *
      go_wp2
      go_region_with (go_at_call 47; refine (eqIntS_blw _ _ _ _ lk (f k) _ (k1.blw (Blw.refl _).drew) (k2.blw (Blw.refl _).drew)).mono ?_; rintro e w' ⟨rfl, hb2⟩)
      all_goals go_wp2
      all_goals go_roundw
      all_goals first | exact ⟨k + 1, by omega, by go_num, hb.trans ((Blw.refl _).drew.trans (by assumption))⟩ | (simp [intOf]; omega)
    · go_wp2
      go_ret
      exact ⟨rfl, hb⟩
/-- What answers a list of lists and a bool. -/
def GivesS (out : SD → Bool → Prop) (w : World) : Ending → World → Prop := fun e w' =>
  ∃ (ao : Option Addr) (c : Nat) (D : SD) (r : Bool), e = .returned (.tuple #[.slice ao D.n c, .bool r]) ∧ out D r ∧ D.total ≤ 1048576 ∧ SSOwn (fun x => w.heap.size ≤ x ∧ x < w'.heap.size) w' ao D ∧ Blw w w'
def resS (ok : Prop) (V D : SD) (r : Bool) : Prop := (ok ∧ D = V ∧ r = true) ∨ (¬ ok ∧ D = SD.zero ∧ r = false)
theorem resS_same {ok : Prop} {V D D' : SD} {r r' : Bool} (h : resS ok V D r) (k : resS ok V D' r') : D = D' ∧ r = r' := by
  rcases h with ⟨g, rfl, rfl⟩ | ⟨g, rfl, rfl⟩
  · rcases k with ⟨_, rfl, rfl⟩ | ⟨g', _⟩
    · exact ⟨rfl, rfl⟩
    · exact absurd g g'
  · rcases k with ⟨g', _⟩ | ⟨_, rfl, rfl⟩
    · exact absurd g' g
    · exact ⟨rfl, rfl⟩
theorem zero_givesS {out : SD → Bool → Prop} {w w1 : World} (ho : out SD.zero false) (hb : Blw w w1) : GivesS out w (.returned (.tuple #[.slice none 0 0, .bool false])) w1 :=
  ⟨none, 0, SD.zero, false, rfl, ho, by show pre _ 0 ≤ _; simp [pre], SSOwn.zero _ _ _, hb⟩
end Go.Proofs.Ytfmmpddknanhbaa
