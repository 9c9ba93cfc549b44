/- What 'markMemory' and its parts write, and what 'heldMemory' answers behind it. -/
import Derived.Test.YtglllnklcnlcjaaBase
namespace Go.Proofs.Ytglllnklcnlcjaa
open Go.RowKit

theorem ret_int {kd : IntKind} {a b : Int} (h : a = b) : Ending.returned (.int kd a) = .returned (.int kd b) := by rw [h]
def three (x : Int) : Bool := x % 3 == 0
/-- How many numbers the lines ahead of line j hold. -/
def pre (len : Nat → Nat) : Nat → Nat
  | 0 => 0
  | j + 1 => pre len j + len j
theorem pre_mono (len : Nat → Nat) {i j : Nat} (h : i ≤ j) : pre len i ≤ pre len j := by
  induction j with
  | zero => obtain rfl : i = 0 := by omega
            exact Nat.le_refl _
  | succ j ih =>
    by_cases e : i = j + 1
    · subst e; exact Nat.le_refl _
    · have := ih (by omega); simp only [pre]; omega

theorem ints_step {X : Nat → Prop} {w wr : World} {ao : Option Addr} {n j b : Nat} {f : Nat → Int} {k : Int} (hj : j < n) (hx : X b) (e : ao = some ⟨b, 0, none⟩) (hn : n ≤ 9223372036854775807)
    (hr : Row wr b n (fun t => .int .i64 (if t < j then k + t else f t))) (hm : Mod (fun b => X b ∧ 0 < n) w wr) :
    IntsOwn X (wr.setCell ⟨b, j, none⟩ (.int .i64 (k + j))) ao n (fun t => if t < j + 1 then k + t else f t) ∧ Mod (fun b => X b ∧ 0 < n) w (wr.setCell ⟨b, j, none⟩ (.int .i64 (k + j))) := by
  refine ⟨⟨hn, fun _ => ⟨b, hx, e, (hr.set j _).congr fun i hi => ?_⟩⟩, hm.trans (Mod.setCell _ ⟨hx, by omega⟩ _)⟩
  by_cases h1 : i = j
  · subst h1; simp
  · by_cases h2 : i < j
    · simp [h1, h2, Nat.lt_succ_of_lt h2]
    · have h3 : ¬ i < j + 1 := by omega
      simp [h1, h2, h3]
theorem bools_step {X : Nat → Prop} {w wr : World} {ao : Option Addr} {n j b : Nat} {f : Nat → Bool} {k : Int} (hj : j < n) (hx : X b) (e : ao = some ⟨b, 0, none⟩) (hn : n ≤ 9223372036854775807)
    (hr : Row wr b n (fun t => .bool (if t < j then three (k + t) else f t))) (hm : Mod (fun b => X b ∧ 0 < n) w wr) :
    BoolsOwn X (wr.setCell ⟨b, j, none⟩ (.bool (three (k + j)))) ao n (fun t => if t < j + 1 then three (k + t) else f t) ∧ Mod (fun b => X b ∧ 0 < n) w (wr.setCell ⟨b, j, none⟩ (.bool (three (k + j)))) := by
  refine ⟨⟨hn, fun _ => ⟨b, hx, e, (hr.set j _).congr fun i hi => ?_⟩⟩, hm.trans (Mod.setCell _ ⟨hx, by omega⟩ _)⟩
  by_cases h1 : i = j
  · subst h1; simp
  · by_cases h2 : i < j
    · simp [h1, h2, Nat.lt_succ_of_lt h2]
    · have h3 : ¬ i < j + 1 := by omega
      simp [h1, h2, h3]

set_option maxHeartbeats 400000 in
theorem markIntS_any (ao : Option Addr) (c n : Nat) (f : Nat → Int) (X : Nat → Prop) (k : Int) (w : World) (hk0 : 0 ≤ k) (hk : k + n ≤ 9223372036854775807) (h : IntsOwn X w ao n f) :
    Calls Try.prog 48 #[.slice ao n c, .int .i64 k] w fun e w' => e = .returned (.int .i64 (k + n)) ∧ IntsOwn X w' ao n (fun i => k + i) ∧ Mod (fun b => X b ∧ 0 < n) w w' := by
  have hn := h.1
  go_enter Try.func48, Try.ntmps48
  go_wp2
  go_loopw [1, 5] (fun kk i wr => ∃ j : Nat, j ≤ n ∧ i = .int .i64 j ∧ kk = .int .i64 (k + j) ∧ IntsOwn X wr ao n (fun t => if t < j then k + t else f t) ∧ Mod (fun b => X b ∧ 0 < n) w wr) (fun _ i _ => n - (intOf i).toNat)
  case atStart => exact ⟨0, Nat.zero_le _, rfl, by simp, by simpa using h, Mod.refl _ _⟩
  case round =>
    obtain ⟨j, hj, rfl, rfl, ho, hm⟩ := hrel
    by_cases hlt : j < n
    · obtain ⟨b, hx, e, hr⟩ := ho.2 (by omega)
      have st := ints_step hlt hx e hn hr hm
      have g1 : wr.cell? ⟨b, j, none⟩ = some (.int .i64 (f j)) := by simpa using hr.cell hlt
      have g2 := hr.frozen j
      subst e
      clear h ho hr hm
      go_wp2
      go_roundw
      case rel => exact ⟨j + 1, by omega, by go_num, by go_num, st.1, st.2⟩
      case measure => simp [intOf]; omega
    · go_wp2
      go_ret
      obtain rfl : j = n := by omega
      refine ⟨rfl, ?_, hm⟩
      refine ⟨hn, fun h0 => ?_⟩
      obtain ⟨b, hx, e, hr⟩ := ho.2 h0
      exact ⟨b, hx, e, hr.congr fun i hi => by simp [hi]⟩
set_option maxHeartbeats 400000 in
theorem markBoolS_any (ao : Option Addr) (c n : Nat) (f : Nat → Bool) (X : Nat → Prop) (k : Int) (w : World) (hk0 : 0 ≤ k) (hk : k + n ≤ 9223372036854775807) (h : BoolsOwn X w ao n f) :
    Calls Try.prog 90 #[.slice ao n c, .int .i64 k] w fun e w' => e = .returned (.int .i64 (k + n)) ∧ BoolsOwn X w' ao n (fun i => three (k + i)) ∧ Mod (fun b => X b ∧ 0 < n) w w' := by
  have hn := h.1
  go_enter Try.func90, Try.ntmps90
  go_wp2
  go_loopw [1, 5] (fun kk i wr => ∃ j : Nat, j ≤ n ∧ i = .int .i64 j ∧ kk = .int .i64 (k + j) ∧ BoolsOwn X wr ao n (fun t => if t < j then three (k + t) else f t) ∧ Mod (fun b => X b ∧ 0 < n) w wr) (fun _ i _ => n - (intOf i).toNat)
  case atStart => exact ⟨0, Nat.zero_le _, rfl, by simp, by simpa using h, Mod.refl _ _⟩
  case round =>
    obtain ⟨j, hj, rfl, rfl, ho, hm⟩ := hrel
    by_cases hlt : j < n
    · obtain ⟨b, hx, e, hr⟩ := ho.2 (by omega)
      have st := bools_step hlt hx e hn hr hm
      have g1 : wr.cell? ⟨b, j, none⟩ = some (.bool (f j)) := by simpa using hr.cell hlt
      have g2 := hr.frozen j
      subst e
      clear h ho hr hm
      go_wp2
      go_roundw
      case rel => exact ⟨j + 1, by omega, by go_num, by go_num, st.1, st.2⟩
      case measure => simp [intOf]; omega
    · go_wp2
      go_ret
      obtain rfl : j = n := by omega
      refine ⟨rfl, ?_, hm⟩
      refine ⟨hn, fun h0 => ?_⟩
      obtain ⟨b, hx, e, hr⟩ := ho.2 h0
      exact ⟨b, hx, e, hr.congr fun i hi => by simp [hi]⟩
theorem lines_step {X : Nat → Prop} {wr w1 : World} {n j b : Nat} {len F c : Nat → Nat} {v : Nat → Nat → Int} {k : Int} (hj : j < n)
    (hr : Row wr b n (fun i => .slice (some ⟨F i, 0, none⟩) (len i) (c i)))
    (hl : ∀ i, i < n → len i ≤ 9223372036854775807 ∧ X (F i) ∧ F i ≠ b ∧ Row wr (F i) (len i) (fun t => .int .i64 (if i < j then k + pre len i + t else v i t))) (hd : ∀ i j, i < n → j < n → i ≠ j → F i ≠ F j)
    (ho : IntsOwn (fun x => x = F j) w1 (some ⟨F j, 0, none⟩) (len j) (fun t => k + pre len j + t)) (hm : Mod (fun x => x = F j ∧ 0 < len j) wr w1) :
    Row w1 b n (fun i => .slice (some ⟨F i, 0, none⟩) (len i) (c i)) ∧
    (∀ i, i < n → len i ≤ 9223372036854775807 ∧ X (F i) ∧ F i ≠ b ∧ Row w1 (F i) (len i) (fun t => .int .i64 (if i < j + 1 then k + pre len i + t else v i t))) := by
  refine ⟨hr.mod hm (fun e => (hl j hj).2.2.1 e.1.symm), fun i hi => ?_⟩
  obtain ⟨g1, g2, g3, g4⟩ := hl i hi
  refine ⟨g1, g2, g3, ?_⟩
  by_cases e : i = j
  · subst e
    by_cases h0 : 0 < len i
    · obtain ⟨b', hb', e', hr'⟩ := ho.2 h0
      subst hb'
      exact hr'.congr fun t ht => by simp
    · exact (g4.mod hm (fun e => h0 e.2)).congr fun t ht => by omega
  · refine (g4.mod hm (fun e' => hd i j hi hj e e'.1)).congr fun t ht => ?_
    by_cases h2 : i < j
    · simp [h2, Nat.lt_succ_of_lt h2]
    · have h3 : ¬ i < j + 1 := by omega
      simp [h2, h3]

set_option maxHeartbeats 800000 in
theorem markLineS_any (ao : Option Addr) (c0 n : Nat) (len : Nat → Nat) (v : Nat → Nat → Int) (X : Nat → Prop) (k : Int) (w : World) (hk0 : 0 ≤ k) (hk : k + pre len n ≤ 9223372036854775807) (h : LinesOwn X w ao n len v) :
    Calls Try.prog 89 #[.slice ao n c0, .int .i64 k] w fun e w' => e = .returned (.int .i64 (k + pre len n)) ∧ LinesOwn X w' ao n len (fun i t => k + pre len i + t) ∧ Mod X w w' := by
  have hn := h.1
  go_enter Try.func89, Try.ntmps89
  go_wp2
  go_loopw [1, 5] (fun kk i wr => ∃ j : Nat, j ≤ n ∧ i = .int .i64 j ∧ kk = .int .i64 (k + pre len j) ∧ LinesOwn X wr ao n len (fun i t => if i < j then k + pre len i + t else v i t) ∧ Mod X w wr) (fun _ i _ => n - (intOf i).toNat)
  case atStart => exact ⟨0, Nat.zero_le _, rfl, by simp [pre], by simpa using h, Mod.refl _ _⟩
  case round =>
    obtain ⟨j, hj, rfl, rfl, ho, hm⟩ := hrel
    by_cases hlt : j < n
    · obtain ⟨b, F, c, hx, e, hr, hl, hd⟩ := ho.2 (by omega)
      have hlj := hl j hlt
      have ioj : IntsOwn (fun x => x = F j) wr (some ⟨F j, 0, none⟩) (len j) (v j) := ⟨hlj.1, fun _ => ⟨F j, rfl, rfl, hlj.2.2.2.congr fun t ht => by simp⟩⟩
      have st := fun (w1 : World) ho hm => lines_step (w1 := w1) hlt hr hl hd ho hm
      have g1 := hr.cell hlt
      have hp : pre len (j + 1) ≤ pre len n := pre_mono len (by omega)
      have hp1 : pre len (j + 1) = pre len j + len j := rfl
      have HP : Hid (pre len (j + 1) = pre len j + len j) := hp1
      have hb2 : (pre len j : Int) + len j ≤ pre len n := by omega
      clear hp hp1
      subst e
      have ST : Hid (∀ (w1 : World), IntsOwn (fun x => x = F j) w1 (some ⟨F j, 0, none⟩) (len j) (fun t => k + pre len j + t) → Mod (fun x => x = F j ∧ 0 < len j) wr w1 → _) := st
      have HD : Hid (∀ i j, i < n → j < n → i ≠ j → F i ≠ F j) := hd
      clear h ho hr hl hd st
      go_wp2_with fail
      refine (markIntS_any _ _ _ (v j) _ _ _ (by omega) (by omega) ioj).mono ?_
      rintro e w1 ⟨rfl, ho1, hm1⟩
      have R := ST.out w1 ho1 hm1
      have hm2 : Mod X wr w1 := hm1.mono (fun x hx => hx.1 ▸ hlj.2.1)
      clear ST ioj ho1 hm1 g1
      go_wp2
      go_roundw
      case rel => exact ⟨j + 1, by omega, by go_num, by rw [HP.out]; go_num, ⟨hn, fun _ => ⟨b, F, c, hx, rfl, R.1, R.2, HD.out⟩⟩, hm.trans hm2⟩
      case measure => simp [intOf]; omega
    · go_wp2
      go_ret
      obtain rfl : j = n := by omega
      refine ⟨rfl, ?_, hm⟩
      refine ⟨hn, fun h0 => ?_⟩
      obtain ⟨b, F, c, hx, e, hr, hl, hd⟩ := ho.2 h0
      refine ⟨b, F, c, hx, e, hr, fun i hi => ?_, hd⟩
      obtain ⟨g1, g2, g3, g4⟩ := hl i hi
      exact ⟨g1, g2, g3, g4.congr fun t ht => by simp [hi]⟩
/-- What a memory holds behind markMemory. -/
def MD.marked (M : MD) (k : Int) : MD :=
  { M with v1 := fun i t => k + pre M.l1 i + t, v2 := fun i t => k + pre M.l1 M.n1 + pre M.l2 i + t, d := fun i => three (k + pre M.l1 M.n1 + pre M.l2 M.n2 + i) }
def MD.total (M : MD) : Nat := pre M.l1 M.n1 + pre M.l2 M.n2 + M.n3

set_option maxHeartbeats 800000 in
theorem markMemory_any (m : MV) (M : MD) (X : Nat → Prop) (k : Int) (w : World) (hk0 : 0 ≤ k) (hk : k + M.total ≤ 9223372036854775807) (h : MemOwn X w m M) (hX : ∀ b, X b → b < w.heap.size) :
    Calls Try.prog 42 #[m.val M, .int .i64 k] w fun e w' => e = .returned (.int .i64 (k + M.total)) ∧ MemOwn X w' m (M.marked k) ∧ Mod X w w' := by
  obtain ⟨X1, X2, X3, h1, h2, h3, s, c, d⟩ := h.ex
  clear h
  obtain ⟨a1, a2, a3, c1, c2, c3⟩ := m
  obtain ⟨n1, n2, n3, l1, l2, v1, v2, dd⟩ := M
  simp only [MV.val, MD.total, MD.marked] at *
  go_enter Try.func42, Try.ntmps42
  go_wp2_with fail
  have hb0 : Blw w (w.alloc (.cells #[.slice a1 n1 c1, .slice a2 n2 c2, .slice a3 n3 c3] 26)) := (Blw.refl _).alloc _
  have hmA := hb0.mod (fun _ => False)
  refine (markLineS_any _ _ n1 l1 v1 X1 _ _ hk0 (by omega) (s.mod hmA (fun _ _ => id))).mono ?_
  rintro e w1 ⟨rfl, o1, m1⟩
  have x1 : ¬ X1 w.heap.size := fun hh => by have := hX _ (h1 _ hh).1; omega
  have x2 : ¬ X2 w.heap.size := fun hh => by have := hX _ (h2 _ hh).1; omega
  have p1 : w1.cell? ⟨w.heap.size, 1, none⟩ = some (.slice a2 n2 c2) := m1.cell (by go_cell) x1
  have p2 : w1.cell? ⟨w.heap.size, 2, none⟩ = some (.slice a3 n3 c3) := m1.cell (by go_cell) x1
  have c' := (c.mod hmA (fun _ _ => id)).mod m1 (fun b hb hh => (h1 b hh).2.1 hb)
  have d' := (d.mod hmA (fun _ _ => id)).mod m1 (fun b hb hh => (h1 b hh).2.2 hb)
  have M1 : Mod X w w1 := (hb0.mod X).trans (m1.mono (fun b hb => (h1 b hb).1))
  clear s c d hmA hb0 m1
  go_wp2_with fail
  refine (markLineS_any _ _ n2 l2 v2 X2 _ _ (by omega) (by omega) c').mono ?_
  rintro e w2 ⟨rfl, o2, m2⟩
  replace p2 := m2.cell p2 x2
  replace o1 := o1.mod m2 (fun b hb hh => (h1 b hb).2.1 hh)
  have d'' := d'.mod m2 (fun b hb hh => (h2 b hh).2 hb)
  have M2 : Mod X w w2 := M1.trans (m2.mono (fun b hb => (h2 b hb).1))
  clear c' d' m2 M1 p1
  go_wp2_with fail
  refine (markBoolS_any _ _ n3 dd X3 _ _ (by omega) (by omega) d'').mono ?_
  rintro e w3 ⟨rfl, o3, m3⟩
  replace o1 := o1.mod m3 (fun b hb hh => (h1 b hb).2.2 hh.1)
  replace o2 := o2.mod m3 (fun b hb hh => (h2 b hb).2 hh.1)
  have M3 : Mod X w w3 := M2.trans (m3.mono (fun b hb => h3 b hb.1))
  clear m3 M2 p2 d''
  go_wp2
  go_ret
  refine ⟨?_, ⟨X1, X2, X3, h1, h2, h3, o1, o2, o3⟩, M3⟩
  exact ret_int (by omega)

set_option maxHeartbeats 400000 in
theorem heldIntS_any (ao : Option Addr) (c n : Nat) (Y : Nat → Prop) (k : Int) (w : World) (hk0 : 0 ≤ k) (hk : k + n ≤ 9223372036854775807) (h : IntsAt Y w ao n (fun i => k + i)) :
    Calls Try.prog 49 #[.slice ao n c, .int .i64 k] w fun e w' => e = .returned (.int .i64 (k + n)) ∧ Blw w w' := by
  obtain ⟨hn, h⟩ := h
  go_enter Try.func49, Try.ntmps49
  go_wp2
  go_loopw [1, 5] (fun kk i wr => ∃ j : Nat, j ≤ n ∧ i = .int .i64 j ∧ kk = .int .i64 (k + j) ∧ Blw w wr) (fun _ i _ => n - (intOf i).toNat)
  case atStart => exact ⟨0, Nat.zero_le _, rfl, by simp, Blw.refl _⟩
  case round =>
    obtain ⟨j, hj, rfl, rfl, hb⟩ := hrel
    by_cases hlt : j < n
    · obtain ⟨b, o, rfl, -, g1⟩ := h j hlt
      replace g1 := hb.cell g1
      clear h
      go_wp2
      go_roundw
      case rel => exact ⟨j + 1, by omega, by go_num, by go_num, hb⟩
      case measure => simp [intOf]; omega
    · go_wp2
      go_ret
      obtain rfl : j = n := by omega
      exact ⟨rfl, hb⟩
set_option maxHeartbeats 400000 in
theorem heldBoolS_any (ao : Option Addr) (c n : Nat) (Y : Nat → Prop) (k : Int) (w : World) (hk0 : 0 ≤ k) (hk : k + n ≤ 9223372036854775807) (h : BoolsAt Y w ao n (fun i => three (k + i))) :
    Calls Try.prog 92 #[.slice ao n c, .int .i64 k] w fun e w' => e = .returned (.int .i64 (k + n)) ∧ Blw w w' := by
  obtain ⟨hn, h⟩ := h
  go_enter Try.func92, Try.ntmps92
  go_wp2
  go_loopw [1, 5] (fun kk i wr => ∃ j : Nat, j ≤ n ∧ i = .int .i64 j ∧ kk = .int .i64 (k + j) ∧ Blw w wr) (fun _ i _ => n - (intOf i).toNat)
  case atStart => exact ⟨0, Nat.zero_le _, rfl, by simp, Blw.refl _⟩
  case round =>
    obtain ⟨j, hj, rfl, rfl, hb⟩ := hrel
    by_cases hlt : j < n
    · obtain ⟨b, o, rfl, -, g1⟩ := h j hlt
      replace g1 := hb.cell g1
      simp only [three] at g1
      clear h
      go_wp2
      go_roundw
      case rel => exact ⟨j + 1, by omega, by go_num, by go_num, hb⟩
      case measure => simp [intOf]; omega
    · go_wp2
      go_ret
      obtain rfl : j = n := by omega
      exact ⟨rfl, hb⟩
set_option maxHeartbeats 800000 in
theorem heldLineS_any (ao : Option Addr) (c0 n : Nat) (len : Nat → Nat) (Y : Nat → Prop) (k : Int) (w : World) (hk0 : 0 ≤ k) (hk : k + pre len n ≤ 9223372036854775807) (h : LinesAt Y w ao n len (fun i t => k + pre len i + t)) :
    Calls Try.prog 91 #[.slice ao n c0, .int .i64 k] w fun e w' => e = .returned (.int .i64 (k + pre len n)) ∧ Blw w w' := by
  obtain ⟨hn, h⟩ := h
  go_enter Try.func91, Try.ntmps91
  go_wp2
  go_loopw [1, 5] (fun kk i wr => ∃ j : Nat, j ≤ n ∧ i = .int .i64 j ∧ kk = .int .i64 (k + pre len j) ∧ Blw w wr) (fun _ i _ => n - (intOf i).toNat)
  case atStart => exact ⟨0, Nat.zero_le _, rfl, by simp [pre], Blw.refl _⟩
  case round =>
    obtain ⟨j, hj, rfl, rfl, hb⟩ := hrel
    by_cases hlt : j < n
    · obtain ⟨b, o, a, c, rfl, -, g1, g2⟩ := h j hlt
      replace g1 := hb.cell g1
      replace g2 := g2.blw hb
      have hp : pre len (j + 1) ≤ pre len n := pre_mono len (by omega)
      have hp1 : pre len (j + 1) = pre len j + len j := rfl
      have HP : Hid (pre len (j + 1) = pre len j + len j) := hp1
      have hb2 : (pre len j : Int) + len j ≤ pre len n := by omega
      have hb3 : 0 ≤ k + pre len j + len j := by omega
      clear h hp hp1
      go_wp2_with fail
      refine (heldIntS_any _ _ _ Y _ _ (by omega) (by omega) g2).mono ?_
      rintro e w1 ⟨rfl, hb1⟩
      replace hb := hb.trans hb1
      clear g1 g2 hb1
      go_wp2
      go_roundw
      case rel => exact ⟨j + 1, by omega, by go_num, by rw [HP.out]; go_num, hb⟩
      case measure => simp [intOf]; omega
    · go_wp2
      go_ret
      obtain rfl : j = n := by omega
      exact ⟨rfl, hb⟩
set_option maxHeartbeats 800000 in
theorem heldMemory_any (m : MV) (M : MD) (Y : Nat → Prop) (k : Int) (w : World) (hk0 : 0 ≤ k) (hk : k + M.total ≤ 9223372036854775807) (h : MemAt Y w m (M.marked k)) :
    Calls Try.prog 46 #[m.val M, .int .i64 k] w fun e w' => e = .returned (.int .i64 (k + M.total)) ∧ Blw w w' := by
  obtain ⟨s, c, d⟩ := h
  obtain ⟨a1, a2, a3, c1, c2, c3⟩ := m
  obtain ⟨n1, n2, n3, l1, l2, v1, v2, dd⟩ := M
  simp only [MV.val, MD.total, MD.marked] at *
  go_enter Try.func46, Try.ntmps46
  go_wp2_with fail
  have hb0 : Blw w (w.alloc (.cells #[.slice a1 n1 c1, .slice a2 n2 c2, .slice a3 n3 c3] 26)) := (Blw.refl _).alloc _
  refine (heldLineS_any _ _ n1 l1 Y _ _ hk0 (by omega) (s.blw hb0)).mono ?_
  rintro e w1 ⟨rfl, hb1⟩
  have p1 : w1.cell? ⟨w.heap.size, 1, none⟩ = some (.slice a2 n2 c2) := hb1.cell (by go_cell)
  have p2 : w1.cell? ⟨w.heap.size, 2, none⟩ = some (.slice a3 n3 c3) := hb1.cell (by go_cell)
  replace hb1 := hb0.trans hb1
  clear hb0
  go_wp2_with fail
  refine (heldLineS_any _ _ n2 l2 Y _ _ (by omega) (by omega) (c.blw hb1)).mono ?_
  rintro e w2 ⟨rfl, hb2⟩
  replace p2 := hb2.cell p2
  replace hb2 := hb1.trans hb2
  clear p1 hb1
  go_wp2_with fail
  refine (heldBoolS_any _ _ n3 Y _ _ (by omega) (by omega) (d.blw hb2)).mono ?_
  rintro e w3 ⟨rfl, hb3⟩
  replace hb3 := hb2.trans hb3
  clear p2 hb2
  go_wp2
  go_ret
  refine ⟨?_, hb3⟩
  exact ret_int (by omega)
end Go.Proofs.Ytglllnklcnlcjaa
