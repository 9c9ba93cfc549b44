/- Good wheels: the model's test of a row. -/
import Derived.Test.YtkmkidahaagbpaaGow
import Derived.BigQuiet
namespace Go.Proofs.Ytkmkidahaagbpaa
open Go.RowKit
set_option linter.unusedSimpArgs false
set_option linter.unusedVariables false
def BRes (p : Prop) (w : World) (e : Ending) (w' : World) : Prop := ∃ b, e = .returned (.bool b) ∧ BOf p b ∧ Blw w w'
theorem bres {p : Prop} {w w' : World} {b : Bool} (h : BOf p b) (hb : Blw w w') : BRes p w (.returned (.bool b)) w' := ⟨b, rfl, h, hb⟩
/-- What the model asks of a timer in row k. -/
def TmOk (now : Int) (k : Nat) (near : Bool) (t : Tm) : Prop := (1 ≤ t.1 ∧ t.1 ≤ 99) ∧ (now + 1 ≤ t.2 ∧ t.2 ≤ now + 63) ∧ (t.2 / 8 = now / 8 ↔ near = true) ∧ (if near = true then t.2 % 8 = k else t.2 / 8 % 8 = k)
def ItOk (now : Int) (k : Nat) (near : Bool) (l : List Tm) (i : Nat) : Prop := TmOk now k near (nth l i) ∧ (0 < i → (nth l (i - 1)).1 < (nth l i).1)
def RowOk (now : Int) (k : Nat) (near : Bool) (l : List Tm) : Prop := ∀ i, i < l.length → ItOk now k near l i
theorem row_bad {now : Int} {k : Nat} {near : Bool} {l : List Tm} {i : Nat} (hi : i < l.length) (h : ¬ ItOk now k near l i) : BOf (RowOk now k near l) false := by
  simp only [BOf, Bool.false_eq_true, false_iff]
  exact fun hh => h (hh i hi)
set_option maxRecDepth 10000 in
set_option maxHeartbeats 1600000 in
theorem l11Row_any (v : WV) (D : WD) (k : Nat) (near : Bool) (a : Option Addr) (c : Nat) (l : List Tm) (Y : Nat → Prop) (w : World) (hk : k < 8) (h0 : 0 ≤ D.now ∧ D.now ≤ 1000) (h : UndosAt Y w a l.length (lf l) (la l)) :
    Calls Try.prog 71 #[v.val D, .int .i64 k, .slice a l.length c, .bool near] w (BRes (RowOk D.now k near l) w) := by
  obtain ⟨now, N, F⟩ := D
  dsimp only at h0 ⊢
  have hln := h.1
  have H : Hid (UndosAt Y w a l.length (lf l) (la l)) := h
  have hb0 : Blw w (w.alloc (.cells #[.int .i64 now, .slice v.a1 N.n v.c1, .slice v.a2 F.n v.c2] 25)) := (Blw.refl _).alloc _
  have HA : Hid (Row (w.alloc (.cells #[.int .i64 now, .slice v.a1 N.n v.c1, .slice v.a2 F.n v.c2] 25)) w.heap.size 3 (t3 (.int .i64 now) (.slice v.a1 N.n v.c1) (.slice v.a2 F.n v.c2))) := box3 w _ _ _ 25
  have HB0 : Hid (Blw w (w.alloc (.cells #[.int .i64 now, .slice v.a1 N.n v.c1, .slice v.a2 F.n v.c2] 25))) := hb0
  clear h hb0
  go_enter Try.func71, Try.ntmps71
  go_wp2_with fail
  generalize w.alloc (.cells #[.int .i64 now, .slice v.a1 N.n v.c1, .slice v.a2 F.n v.c2] 25) = W0 at *
  go_loopw [14] (fun i wr => ∃ j : Nat, j ≤ l.length ∧ i = .int .i64 j ∧ Blw W0 wr ∧ Hid (∀ i, i < j → ItOk now k near l i)) (fun i _ => l.length - (intOf i).toNat)
  case atStart => exact ⟨0, Nat.zero_le _, rfl, Blw.refl _, fun j hj => absurd hj (Nat.not_lt_zero _)⟩
  case round =>
    obtain ⟨j, hj, rfl, hb, HJ⟩ := hrel
    by_cases hlt : j < l.length
    · obtain ⟨b, o, rfl, -, g0, g1⟩ := ((H.out.blw HB0.out).blw hb).2 j hlt
      simp only [lf, la] at g0 g1
      have hpv : 0 < j → wr.cell? ⟨b, o + (j - 1) * 2, none⟩ = some (.int .i64 (nth l (j - 1)).1) := fun hj0 => by
        obtain ⟨b', o', e, -, q0, q1⟩ := ((H.out.blw HB0.out).blw hb).2 (j - 1) (by omega)
        cases e
        exact q0
      obtain ⟨a0, a1, a2⟩ := get3 (HA.out.blw hb)
      have HB : Hid (Blw W0 wr) := hb
      obtain ⟨x, hx⟩ : ∃ x, nth l j = x := ⟨_, rfl⟩
      have HX : Hid (nth l j = x) := hx
      rw [hx] at g0 g1
      go_wp2_with fail
      clear g0 g1 hb hx
      have T0 := get2 (box2 wr (.int .i64 x.1) (.int .i64 x.2) 39)
      have hbt : Blw wr (wr.alloc (.cells #[.int .i64 x.1, .int .i64 x.2] 39)) := (Blw.refl _).alloc _
      replace a0 := hbt.cell a0
      replace HB : Hid (Blw W0 (wr.alloc (.cells #[.int .i64 x.1, .int .i64 x.2] 39))) := HB.out.trans hbt
      replace hpv : 0 < j → (wr.alloc (.cells #[.int .i64 x.1, .int .i64 x.2] 39)).cell? ⟨b, o + (j - 1) * 2, none⟩ = some (.int .i64 (nth l (j - 1)).1) := fun hj0 => hbt.cell (hpv hj0)
      obtain ⟨x0, x1⟩ := T0
      clear a1 a2 hbt
      generalize wr.alloc (.cells #[.int .i64 x.1, .int .i64 x.2] 39) = W1 at *
      have w1e : IntKind.i64.wrap (now + 1) = now + 1 := by rw [IntKind.wrap_i64]; omega
      have w2e : IntKind.i64.wrap (now + 63) = now + 63 := by rw [IntKind.wrap_i64]; omega
      by_cases c1 : 1 ≤ x.1 ∧ x.1 ≤ 99
      · have C1 : Hid (1 ≤ x.1 ∧ x.1 ≤ 99) := c1
        clear c1
        by_cases c2 : now + 1 ≤ x.2 ∧ x.2 ≤ now + 63
        · have C2 : Hid (now + 1 ≤ x.2 ∧ x.2 ≤ now + 63) := c2
          have hx2 : 0 ≤ x.2 ∧ x.2 ≤ 1063 := by omega
          clear c2
          by_cases c4 : 0 < j ∧ ¬ (nth l (j - 1)).1 < x.1
          · have hj0 : decide (0 < j) = true := decide_eq_true (by omega)
            have p0 := hpv c4.1
            have hge : decide (x.1 ≤ (nth l (j - 1)).1) = true := decide_eq_true (by omega)
            have hjn : ((j : Int) - 1).toNat = j - 1 := by omega
            have hj1 : (0 : Int) ≤ (j : Int) - 1 := by omega
            have hj2 : (j : Int) - 1 < (l.length : Int) := by omega
            have hjw : IntKind.i64.wrap ((j : Int) - 1) = (j : Int) - 1 := by rw [IntKind.wrap_i64]; omega
            have C4 : Hid (0 < j ∧ ¬ (nth l (j - 1)).1 < x.1) := c4
            clear hpv c4
            have HBAD : Hid (¬ ItOk now k near l j) := by
              intro hh
              have hh1 := hh.1
              have hh2 := hh.2
              rw [HX.out] at hh1 hh2
              exact C4.out.2 (hh2 C4.out.1)
            clear HJ
            go_quiet (first | (go_at_call_of 52 (Value.int .i64 (99 : Int)); exact Calls.quiet_of_same (l1In_yes x.1 1 99 _ C1.out.1 C1.out.2)) | (go_at_call_of 52 (Value.int .i64 x.2); exact Calls.quiet_of_same (l1In_yes x.2 (now + 1) (now + 63) _ C2.out.1 C2.out.2)))
            go_wp2
            go_ret
            exact bres (row_bad hlt HBAD.out) (HB0.out.trans (HB.out.drewN _))
          · have HO : Hid (0 < j → (nth l (j - 1)).1 < x.1) := fun h => Decidable.byContradiction (fun hn => c4 ⟨h, hn⟩)
            go_cut [49] from 19 to 49 (fun c9 wx => c9 = .bool false ∧ Hid (Blw W1 wx))
            case first =>
              by_cases hj0 : 0 < j
              · have hjd : decide (0 < j) = true := decide_eq_true (by omega)
                have p0 := hpv hj0
                have hlt4 := HO.out hj0
                have hge : decide (x.1 ≤ (nth l (j - 1)).1) = false := decide_eq_false (by omega)
                have hjn : ((j : Int) - 1).toNat = j - 1 := by omega
                have hj1 : (0 : Int) ≤ (j : Int) - 1 := by omega
                have hj2 : (j : Int) - 1 < (l.length : Int) := by omega
                have hjw : IntKind.i64.wrap ((j : Int) - 1) = (j : Int) - 1 := by rw [IntKind.wrap_i64]; omega
                clear hpv c4 hlt4 HJ
                go_quiet (first | (go_at_call_of 52 (Value.int .i64 (99 : Int)); exact Calls.quiet_of_same (l1In_yes x.1 1 99 _ C1.out.1 C1.out.2)) | (go_at_call_of 52 (Value.int .i64 x.2); exact Calls.quiet_of_same (l1In_yes x.2 (now + 1) (now + 63) _ C2.out.1 C2.out.2)))
                go_wp2_with fail
                go_meet
                exact ⟨rfl, (Blw.refl _).drewN _⟩
              · have hjd : decide (0 < j) = false := decide_eq_false (by omega)
                clear hpv c4 HJ
                go_quiet (first | (go_at_call_of 52 (Value.int .i64 (99 : Int)); exact Calls.quiet_of_same (l1In_yes x.1 1 99 _ C1.out.1 C1.out.2)) | (go_at_call_of 52 (Value.int .i64 x.2); exact Calls.quiet_of_same (l1In_yes x.2 (now + 1) (now + 63) _ C2.out.1 C2.out.2)))
                go_wp2_with fail
                go_meet
                exact ⟨rfl, (Blw.refl _).drewN _⟩
            case rest =>
              obtain ⟨rfl, hcut2⟩ := hcut
              have hwc := hcut2.out
              have x1c := hwc.cell x1
              have a0c := hwc.cell a0
              replace HB : Hid (Blw W0 wc) := HB.out.trans hwc
              clear x0 x1 a0 hpv hwc hcut2 c4 w1e w2e
              have HN : Hid (now / 8 = now / 8) := rfl
              by_cases sm : x.2 / 8 = now / 8
              · have s1 : (x.2 / 8 == now / 8) = true := by simpa using sm
                cases near with
                | true =>
                  by_cases mm : x.2 % 8 = k
                  · have m1 : (x.2 % 8 != (k : Int)) = false := by simpa using mm
                    have HIT : Hid (∀ i, i < j + 1 → ItOk now k true l i) := fun i hi => by
                      by_cases e : i = j
                      · subst e
                        unfold ItOk
                        rw [HX.out]
                        exact ⟨⟨C1.out, C2.out, ⟨fun _ => rfl, fun _ => sm⟩, by rw [if_pos rfl]; exact mm⟩, HO.out⟩
                      · exact HJ.out i (by omega)
                    clear HJ sm mm
                    go_wp2
                    go_roundw
                    case rel => exact ⟨j + 1, by omega, by go_num, HB.out, HIT.out⟩
                    case measure => simp [intOf]; omega
                  · have m1 : (x.2 % 8 != (k : Int)) = true := by simpa using mm
                    have HBAD : Hid (¬ ItOk now k true l j) := by
                      intro hh
                      have hh1 := hh.1
                      rw [HX.out] at hh1
                      have h9 := hh1.2.2.2
                      rw [if_pos rfl] at h9
                      exact mm h9
                    clear HJ
                    go_wp2
                    go_ret
                    exact bres (row_bad hlt HBAD.out) (HB0.out.trans HB.out)
                | false =>
                  have HBAD : Hid (¬ ItOk now k false l j) := by
                    intro hh
                    have hh1 := hh.1
                    rw [HX.out] at hh1
                    have h9 := hh1.2.2.1.1 sm
                    cases h9
                  clear HJ
                  go_wp2
                  go_ret
                  exact bres (row_bad hlt HBAD.out) (HB0.out.trans HB.out)
              · have s1 : (x.2 / 8 == now / 8) = false := by simpa using sm
                cases near with
                | true =>
                  have HBAD : Hid (¬ ItOk now k true l j) := by
                    intro hh
                    have hh1 := hh.1
                    rw [HX.out] at hh1
                    exact sm (hh1.2.2.1.2 rfl)
                  clear HJ
                  go_wp2
                  go_ret
                  exact bres (row_bad hlt HBAD.out) (HB0.out.trans HB.out)
                | false =>
                  by_cases mm : x.2 / 8 % 8 = k
                  · have m1 : (x.2 / 8 % 8 != (k : Int)) = false := by simpa using mm
                    have HIT : Hid (∀ i, i < j + 1 → ItOk now k false l i) := fun i hi => by
                      by_cases e : i = j
                      · subst e
                        unfold ItOk
                        rw [HX.out]
                        exact ⟨⟨C1.out, C2.out, ⟨fun h => absurd h sm, fun h => by cases h⟩, by simp only [Bool.false_eq_true, if_false]; exact mm⟩, HO.out⟩
                      · exact HJ.out i (by omega)
                    clear HJ sm mm
                    go_wp2
                    go_roundw
                    case rel => exact ⟨j + 1, by omega, by go_num, HB.out, HIT.out⟩
                    case measure => simp [intOf]; omega
                  · have m1 : (x.2 / 8 % 8 != (k : Int)) = true := by simpa using mm
                    have HBAD : Hid (¬ ItOk now k false l j) := by
                      intro hh
                      have hh1 := hh.1
                      rw [HX.out] at hh1
                      have h9 := hh1.2.2.2
                      simp only [Bool.false_eq_true, if_false] at h9
                      exact mm h9
                    clear HJ
                    go_wp2
                    go_ret
                    exact bres (row_bad hlt HBAD.out) (HB0.out.trans HB.out)
        · have C2 : Hid (¬ (now + 1 ≤ x.2 ∧ x.2 ≤ now + 63)) := c2
          clear c2 hpv
          have HBAD : Hid (¬ ItOk now k near l j) := by
            intro hh
            have hh1 := hh.1
            have hh2 := hh.2
            rw [HX.out] at hh1 hh2
            exact C2.out hh1.2.1
          clear HJ
          go_quiet (first | (go_at_call_of 52 (Value.int .i64 (99 : Int)); exact Calls.quiet_of_same (l1In_yes x.1 1 99 _ C1.out.1 C1.out.2)) | (go_at_call_of 52 (Value.int .i64 x.2); exact Calls.quiet_of_same (l1In_no x.2 (now + 1) (now + 63) _ C2.out)))
          go_wp2
          go_ret
          exact bres (row_bad hlt HBAD.out) (HB0.out.trans (HB.out.drewN _))
      · have C1 : Hid (¬ (1 ≤ x.1 ∧ x.1 ≤ 99)) := c1
        clear c1 hpv
        have HBAD : Hid (¬ ItOk now k near l j) := by
          intro hh
          have hh1 := hh.1
          have hh2 := hh.2
          rw [HX.out] at hh1 hh2
          exact C1.out hh1.1
        clear HJ
        go_quiet (first | (go_at_call_of 52 (Value.int .i64 (99 : Int)); exact Calls.quiet_of_same (l1In_no x.1 1 99 _ C1.out)))
        go_wp2
        go_ret
        exact bres (row_bad hlt HBAD.out) (HB0.out.trans (HB.out.drewN _))
    · obtain rfl : j = l.length := by omega
      have HE : Hid (RowOk now k near l) := HJ.out
      clear HJ
      go_wp2
      go_ret
      exact bres (by simp only [BOf, true_iff]; exact HE.out) (HB0.out.trans hb)
end Go.Proofs.Ytkmkidahaagbpaa
