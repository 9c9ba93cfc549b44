/- 'spec.ReadSlots', and the laws' copies of lists of slots: alike, marked, held. -/
import Derived.Test.YtnbcjdoohmjghaaReadM
namespace Go.Proofs.Ytnbcjdoohmjghaa
open Go.RowKit
set_option linter.unusedSimpArgs false
set_option linter.unusedVariables false
set_option maxHeartbeats 1600000 in
theorem specRead_any (m : MV) (M : MD) (Y : Nat → Prop) (w : World) (h : MemAt Y w m M) :
    Calls Try.prog 55 #[m.val M] w (GivesS (rsOut M) w) := by
  go_enter Try.func55, Try.ntmps55
  go_wp2_with fail
  have hb0 : Blw w (w.alloc (.cells #[.slice m.a1 M.n1 m.c1, .slice m.a2 M.n2 m.c2, .slice m.a3 M.n3 m.c3] 26)) := (Blw.refl _).alloc _
  have rA := box3 w (.slice m.a1 M.n1 m.c1) (.slice m.a2 M.n2 m.c2) (.slice m.a3 M.n3 m.c3) 26
  refine (goodS_any m M Y _ (h.blw hb0)).mono ?_
  rintro e w1 ⟨b, rfl, hgd, hb1⟩
  replace rA := rA.blw hb1
  replace hb1 := hb0.trans hb1
  replace h := h.blw hb1
  clear hb0
  have HG : Hid (b = true ↔ M.Good) := hgd
  clear hgd
  cases b
  · have NG : Hid (¬ M.Good) := fun g => absurd (HG.out.2 g) (by decide)
    clear HG rA h
    go_wp2
    go_ret2
    exact zero_givesS NG.out hb1
  · have GD : Hid M.Good := HG.out.1 rfl
    obtain ⟨p0, p1, p2⟩ := get3 rA
    clear HG
    go_wp2_with fail
    refine (l2Read_any m M Y _ GD.out h).mono ?_
    rintro r w2 ⟨ao, cap, rfl, own, hb2⟩
    have zz := hb1.size
    replace hb2 := hb1.trans hb2
    clear p0 p1 p2 rA h hb1
    have HO : Hid (SlotsOwn _ _ _ _ _) := own
    clear own
    go_wp2
    go_ret2
    exact ⟨ao, _, cap, _, true, rfl, Or.inl ⟨GD.out, rfl, rfl, rfl⟩, HO.out.mono (fun b hb => ⟨by have := hb.1; omega, hb.2⟩), hb2⟩
theorem sc_at (f : Nat → T3) (i : Nat) : sc f (i * 3) = .int .i64 (f i).1 ∧ sc f (i * 3 + 1) = .int .i64 (f i).2.1 ∧ sc f (i * 3 + 2) = .int .i64 (f i).2.2 := by
  have a0 : i * 3 % 3 = 0 := by omega
  have a1 : (i * 3 + 1) % 3 = 1 := by omega
  have a2 : (i * 3 + 2) % 3 = 2 := by omega
  have b0 : i * 3 / 3 = i := by omega
  have b1 : (i * 3 + 1) / 3 = i := by omega
  have b2 : (i * 3 + 2) / 3 = i := by omega
  simp [sc, a0, a1, a2, b0, b1, b2]
theorem slot_get {w : World} {b n : Nat} {f : Nat → T3} (r : Row w b (n * 3) (sc f)) {i : Nat} (hi : i < n) : w.cell? ⟨b, i * 3, none⟩ = some (.int .i64 (f i).1) ∧ w.cell? ⟨b, i * 3 + 1, none⟩ = some (.int .i64 (f i).2.1) ∧ w.cell? ⟨b, i * 3 + 2, none⟩ = some (.int .i64 (f i).2.2) := by
  obtain ⟨h0, h1, h2⟩ := sc_at f i
  refine ⟨?_, ?_, ?_⟩
  · rw [r.cell (by omega), h0]
  · rw [r.cell (by omega), h1]
  · rw [r.cell (by omega), h2]
set_option maxHeartbeats 1600000 in
theorem eqSlotS_same (a1 a2 : Option Addr) (c1 c2 n : Nat) (f : Nat → T3) (X Y : Nat → Prop) (w : World) (h1 : SlotsOwn X w a1 n f) (h2 : SlotsOwn Y w a2 n f) :
    Calls Try.prog 70 #[.slice a1 n c1, .slice a2 n c2] w fun e w' => e = .returned (.bool true) ∧ Blw w w' := by
  have H1 : Hid (SlotsOwn X w a1 n f) := h1
  have H2 : Hid (SlotsOwn Y w a2 n f) := h2
  have hn := h1.1
  clear h1 h2
  have hne : ((n : Int) != (n : Int)) = false := by simp
  go_enter Try.func70, Try.ntmps70
  go_wp2_with fail
  go_loopw [5] (fun i wr => ∃ k : Nat, k ≤ n ∧ i = .int .i64 k ∧ Blw w wr) (fun i _ => n - (intOf i).toNat)
  case atStart => exact ⟨0, Nat.zero_le _, rfl, Blw.refl _⟩
  case round =>
    obtain ⟨k, hk, rfl, hb⟩ := hrel
    by_cases hlt : k < n
    · have hlt' : (k : Int) < n := by omega
      obtain ⟨b1, -, rfl, r1⟩ := (H1.out.blw hb).2 (by omega)
      obtain ⟨b2, -, rfl, r2⟩ := (H2.out.blw hb).2 (by omega)
      have P0 : ∀ w', Blw wr w' → w'.cell? ⟨b1, k * 3, none⟩ = some (.int .i64 (f k).1) := fun w' hh => (slot_get (r1.blw hh) hlt).1
      have P1 : ∀ w', Blw wr w' → w'.cell? ⟨b1, k * 3 + 1, none⟩ = some (.int .i64 (f k).2.1) := fun w' hh => (slot_get (r1.blw hh) hlt).2.1
      have P2 : ∀ w', Blw wr w' → w'.cell? ⟨b1, k * 3 + 2, none⟩ = some (.int .i64 (f k).2.2) := fun w' hh => (slot_get (r1.blw hh) hlt).2.2
      have Q0 : ∀ w', Blw wr w' → w'.cell? ⟨b2, k * 3, none⟩ = some (.int .i64 (f k).1) := fun w' hh => (slot_get (r2.blw hh) hlt).1
      have Q1 : ∀ w', Blw wr w' → w'.cell? ⟨b2, k * 3 + 1, none⟩ = some (.int .i64 (f k).2.1) := fun w' hh => (slot_get (r2.blw hh) hlt).2.1
      have Q2 : ∀ w', Blw wr w' → w'.cell? ⟨b2, k * 3 + 2, none⟩ = some (.int .i64 (f k).2.2) := fun w' hh => (slot_get (r2.blw hh) hlt).2.2
      have HB : Hid (Blw w wr) := hb
      clear r1 r2 H1 H2 hb
      go_wp2_with fail
      go_region_held3 (fun w' => Blw wr w') ((first | exact (Blw.refl _).drew | assumption | exact Blw.trans (by assumption) (by assumption))) (first
        | (go_at_call 73; refine (eqSlot_same (f k).1 (f k).2.1 (f k).2.2 _).mono ?_; rintro e w7 ⟨rfl, hb7⟩))
      all_goals go_wp2
      all_goals go_roundw
      all_goals first | exact ⟨k + 1, by omega, by go_num, HB.out.trans (by assumption)⟩ | (simp [intOf]; omega)
    · obtain rfl : k = n := by omega
      go_wp2
      go_ret
      exact ⟨rfl, hb⟩
def mk3 (k : Int) : Nat → T3 := fun j => (k + 3 * j, k + 3 * j + 1, k + 3 * j + 2)
theorem mark_row {w : World} {b n i : Nat} {k : Int} {f : Nat → T3} (hi : i < n) (r : Row w b (n * 3) (sc (fun j => if j < i then mk3 k j else f j))) :
    Row (((w.setCell ⟨b, i * 3, none⟩ (.int .i64 (k + 3 * i))).setCell ⟨b, i * 3 + 1, none⟩ (.int .i64 (k + 3 * i + 1))).setCell ⟨b, i * 3 + 2, none⟩ (.int .i64 (k + 3 * i + 2))) b (n * 3) (sc (fun j => if j < i + 1 then mk3 k j else f j)) := by
  refine (((r.set (i * 3) _).set (i * 3 + 1) _).set (i * 3 + 2) _).congr (fun t ht => ?_)
  obtain ⟨g0, g1, g2⟩ := sc_at (fun j => if j < i + 1 then mk3 k j else f j) i
  by_cases e2 : t = i * 3 + 2
  · subst e2
    rw [if_pos rfl, g2]
    simp [mk3]
  · rw [if_neg e2]
    by_cases e1 : t = i * 3 + 1
    · subst e1
      rw [if_pos rfl, g1]
      simp [mk3]
    · rw [if_neg e1]
      by_cases e0 : t = i * 3
      · subst e0
        rw [if_pos rfl, g0]
        simp [mk3]
      · rw [if_neg e0]
        have hq : t / 3 ≠ i := by omega
        have hq2 : (t / 3 < i + 1) = (t / 3 < i) := by simp; omega
        simp [sc, hq2]
theorem mark_step {w wr : World} {b n i : Nat} {k : Int} {f : Nat → T3} {X : Nat → Prop} (hn : n ≤ 2) (hi : i < n) (hx : X b) (hm : Mod X w wr) (r : Row wr b (n * 3) (sc (fun j => if j < i then mk3 k j else f j))) :
    SlotsOwn X (((wr.setCell ⟨b, i * 3, none⟩ (.int .i64 (k + 3 * i))).setCell ⟨b, i * 3 + 1, none⟩ (.int .i64 (k + 3 * i + 1))).setCell ⟨b, i * 3 + 2, none⟩ (.int .i64 (k + 3 * i + 2))) (some ⟨b, 0, none⟩) n (fun j => if j < i + 1 then mk3 k j else f j) ∧ Mod X w (((wr.setCell ⟨b, i * 3, none⟩ (.int .i64 (k + 3 * i))).setCell ⟨b, i * 3 + 1, none⟩ (.int .i64 (k + 3 * i + 1))).setCell ⟨b, i * 3 + 2, none⟩ (.int .i64 (k + 3 * i + 2))) :=
  ⟨⟨hn, fun _ => ⟨b, hx, rfl, mark_row hi r⟩⟩, ((hm.trans (Mod.setCell _ (p := ⟨b, i * 3, none⟩) hx _)).trans (Mod.setCell _ (p := ⟨b, i * 3 + 1, none⟩) hx _)).trans (Mod.setCell _ (p := ⟨b, i * 3 + 2, none⟩) hx _)⟩
set_option maxHeartbeats 1600000 in
theorem markSlotS_any (ao : Option Addr) (c n : Nat) (f : Nat → T3) (X : Nat → Prop) (k : Int) (w : World) (h1 : 0 ≤ k) (h2 : k ≤ 2097152) (h : SlotsOwn X w ao n f) :
    Calls Try.prog 71 #[.slice ao n c, .int .i64 k] w fun e w' => e = .returned (.int .i64 (k + 3 * n)) ∧ SlotsOwn X w' ao n (mk3 k) ∧ Mod X w w' := by
  have H : Hid (SlotsOwn X w ao n f) := h
  have hn := h.1
  clear h
  go_enter Try.func71, Try.ntmps71
  go_wp2_with fail
  go_loopw [1, 5] (fun kv iv wr => ∃ i : Nat, i ≤ n ∧ iv = .int .i64 i ∧ kv = .int .i64 (k + 3 * i) ∧ SlotsOwn X wr ao n (fun j => if j < i then mk3 k j else f j) ∧ Mod X w wr) (fun _ i _ => n - (intOf i).toNat)
  case atStart => exact ⟨0, Nat.zero_le _, rfl, by simp, by simpa using H.out, Mod.refl _ _⟩
  case round =>
    obtain ⟨i, hi, rfl, rfl, S, hm⟩ := hrel
    clear H
    by_cases hlt : i < n
    · have hlt' : (i : Int) < n := by omega
      obtain ⟨b, hx, rfl, r⟩ := S.2 (by omega)
      obtain ⟨p0, p1, p2⟩ := slot_get r hlt
      have f0 := r.frozen (i * 3)
      have f1 := r.frozen (i * 3 + 1)
      have f2 := r.frozen (i * 3 + 2)
      have HR : Hid _ := mark_step hn hlt hx hm r
      clear S hm r
      have e1 : k + 3 * (i : Int) + 1 + 1 = k + 3 * i + 2 := by omega
      go_wp2
      go_roundw
      case rel => exact ⟨i + 1, by omega, by go_num, by congr 1; omega, HR.out⟩
      case measure => simp [intOf]; omega
    · obtain rfl : i = n := by omega
      go_wp2
      go_ret
      refine ⟨rfl, ⟨S.1, fun h0 => ?_⟩, hm⟩
      obtain ⟨b, hx, e, r⟩ := S.2 h0
      refine ⟨b, hx, e, r.congr (fun t ht => ?_)⟩
      have : t / 3 < i := by omega
      simp [sc, this]
set_option maxHeartbeats 1600000 in
theorem heldSlotS_any (ao : Option Addr) (c n : Nat) (X : Nat → Prop) (k : Int) (w : World) (h1 : 0 ≤ k) (h2 : k ≤ 2097152) (h : SlotsOwn X w ao n (mk3 k)) :
    Calls Try.prog 72 #[.slice ao n c, .int .i64 k] w fun e w' => e = .returned (.int .i64 (k + 3 * n)) ∧ Blw w w' := by
  have H : Hid (SlotsOwn X w ao n (mk3 k)) := h
  have hn := h.1
  clear h
  go_enter Try.func72, Try.ntmps72
  go_wp2_with fail
  go_loopw [1, 5] (fun kv iv wr => ∃ i : Nat, i ≤ n ∧ iv = .int .i64 i ∧ kv = .int .i64 (k + 3 * i) ∧ wr = w) (fun _ i _ => n - (intOf i).toNat)
  case atStart => exact ⟨0, Nat.zero_le _, rfl, by simp, rfl⟩
  case round =>
    obtain ⟨i, hi, rfl, rfl, rfl⟩ := hrel
    by_cases hlt : i < n
    · have hlt' : (i : Int) < n := by omega
      obtain ⟨b, hx, rfl, r⟩ := H.out.2 (by omega)
      obtain ⟨p0, p1, p2⟩ := slot_get r hlt
      simp only [mk3] at p0 p1 p2
      have e1 : k + 3 * (i : Int) + 1 + 1 = k + 3 * i + 2 := by omega
      have n0 : ((k + 3 * (i : Int)) != (k + 3 * (i : Int))) = false := by simp
      have n1 : ((k + 3 * (i : Int) + 1) != (k + 3 * (i : Int) + 1)) = false := by simp
      have n2 : ((k + 3 * (i : Int) + 2) != (k + 3 * (i : Int) + 2)) = false := by simp
      clear r
      go_wp2
      go_roundw
      case rel => exact ⟨i + 1, by omega, by go_num, by congr 1; omega, by first | rfl | trivial⟩
      case measure => simp [intOf]; omega
    · obtain rfl : i = n := by omega
      go_wp2
      go_ret
      exact ⟨rfl, Blw.refl _⟩
end Go.Proofs.Ytnbcjdoohmjghaa
