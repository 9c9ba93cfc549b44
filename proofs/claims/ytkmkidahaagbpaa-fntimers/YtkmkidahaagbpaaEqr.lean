/- slices.Equal of rows, slices.EqualFunc of lists of rows. -/
import Derived.Test.YtkmkidahaagbpaaCc
import Derived.Test.YtkmkidahaagbpaaSml
import Derived.BigQuiet
import Derived.Laws.StructEq
namespace Go.Proofs.Ytkmkidahaagbpaa
open Go.RowKit
set_option linter.unusedSimpArgs false
set_option linter.unusedVariables false
set_option maxHeartbeats 3200000 in
theorem pairEq (d : Nat) (a b a' b' : Int) (w : World) : (Op.equalIn (d + 2) 39 (.agg #[.int .i64 a, .int .i64 b]) (.agg #[.int .i64 a', .int .i64 b'])).run Try.prog w = .ok ((a == a') && (b == b')) w := by
  have u : Try.prog.underlying 39 = some (.struct (Try.prog.fieldsOf 39)) := by kernel_rfl
  have hp : Try.prog.stoodInHeld 39 = false := by kernel_rfl
  have hf : (Try.prog.fieldsOf 39).map (fun f => (f.name, f.type, f.offset)) = #[("Id", 3, 0), ("At", 3, 1)] := by kernel_rfl
  have p0 : ∀ w, (part 3 #[Value.int .i64 a, .int .i64 b] 0).run Try.prog w = .ok (.int .i64 a) w := fun w => by kernel_rfl
  have p1 : ∀ w, (part 3 #[Value.int .i64 a, .int .i64 b] 1).run Try.prog w = .ok (.int .i64 b) w := fun w => by kernel_rfl
  have q0 : ∀ w, (part 3 #[Value.int .i64 a', .int .i64 b'] 0).run Try.prog w = .ok (.int .i64 a') w := fun w => by kernel_rfl
  have q1 : ∀ w, (part 3 #[Value.int .i64 a', .int .i64 b'] 1).run Try.prog w = .ok (.int .i64 b') w := fun w => by kernel_rfl
  have H : ∀ x y w, (Op.equalIn (d + 1) 3 (.int .i64 x) (.int .i64 y)).run Try.prog w = .ok (x == y) w := fun x y w => run_equalIn_int w d 3 .i64 .i64 x y Try.underlying3
  by_cases h0 : a = a' <;> by_cases h1 : b = b' <;> simp [go_sem, h0, h1]
theorem tmNe (x y : Tm) (h : x ≠ y) (w : World) : (binOp .neq 39 (.agg #[.int .i64 x.1, .int .i64 x.2]) (.agg #[.int .i64 y.1, .int .i64 y.2])).run Try.prog w = .ok (.bool true) w := by
  rw [run_neq_struct, pairEq 9998 x.1 x.2 y.1 y.2 w]
  have : ((x.1 == y.1) && (x.2 == y.2)) = false := by
    simp only [Bool.and_eq_false_iff, beq_eq_false_iff_ne]
    by_cases e : x.1 = y.1
    · exact Or.inr (fun e2 => h (Prod.ext e e2))
    · exact Or.inl e
  simp [this]
theorem tmEq (x : Tm) (w : World) : (binOp .neq 39 (.agg #[.int .i64 x.1, .int .i64 x.2]) (.agg #[.int .i64 x.1, .int .i64 x.2])).run Try.prog w = .ok (.bool false) w := by
  rw [run_neq_struct, pairEq 9998 x.1 x.2 x.1 x.2 w]
  simp
theorem list_ext {l m : List Tm} (hl : l.length = m.length) (h : ∀ i, i < l.length → nth l i = nth m i) : l = m := by
  apply List.ext_getElem hl
  intro i h1 h2
  have := h i h1
  rwa [nth_get h1, nth_get h2] at this
set_option maxHeartbeats 1600000 in
theorem equal_any (a1 a2 : Option Addr) (c1 c2 : Nat) (l m : List Tm) (Y Z : Nat → Prop) (w : World) (h1 : UndosAt Y w a1 l.length (lf l) (la l)) (h2 : UndosAt Z w a2 m.length (lf m) (la m)) :
    Calls Try.prog 78 #[.slice a1 l.length c1, .slice a2 m.length c2] w fun e w' => ∃ b, e = .returned (.bool b) ∧ BOf (l = m) b ∧ Blw w w' := by
  have H1 : Hid (UndosAt Y w a1 l.length (lf l) (la l)) := h1
  have H2 : Hid (UndosAt Z w a2 m.length (lf m) (la m)) := h2
  have hl1 := h1.1
  have hl2 := h2.1
  clear h1 h2
  by_cases hl : l.length = m.length
  · have hne : ((l.length : Int) != (m.length : Int)) = false := by simp [hl]
    go_enter Try.func78, Try.ntmps78
    go_wp2
    go_loopw [13] (fun i wr => ∃ k : Nat, k ≤ l.length ∧ i = .int .i64 k ∧ Blw w wr ∧ Hid (∀ j, j < k → nth l j = nth m j)) (fun i _ => l.length - (intOf i).toNat)
    case atStart => exact ⟨0, Nat.zero_le _, rfl, Blw.refl _, fun j hj => absurd hj (Nat.not_lt_zero _)⟩
    case round =>
      obtain ⟨k, hk, rfl, hb, HJ⟩ := hrel
      by_cases hlt : k < l.length
      · have hlt2 : k < m.length := by omega
        obtain ⟨b, o, rfl, -, g0, g1⟩ := (H1.out.blw hb).2 k hlt
        obtain ⟨b', o', rfl, -, g0', g1'⟩ := (H2.out.blw hb).2 k hlt2
        simp only [lf, la] at g0 g1 g0' g1'
        have HB : Hid (Blw w wr) := hb
        clear hb
        by_cases he : nth l k = nth m k
        · have hneq := tmEq (nth m k)
          rw [he] at g0 g1
          have HJ2 : Hid (∀ j, j < k + 1 → nth l j = nth m j) := fun j hj => by
            by_cases e : j = k
            · subst e; exact he
            · exact HJ.out j (by omega)
          clear he HJ
          generalize nth m k = x at *
          go_wp2_with fail
          go_quiet (fail)
          clear g0 g1 g0' g1' hneq
          replace HB : Hid (Blw w (wr.drewN nq)) := HB.out.drewN nq
          go_wp2
          go_roundw
          case rel => exact ⟨k + 1, by omega, by go_num, HB.out, HJ2.out⟩
          case measure => simp [intOf]; omega
        · have hneq := tmNe (nth l k) (nth m k) he
          have HE : Hid (¬ l = m) := fun e => he (by rw [e])
          clear he HJ
          generalize nth m k = x at *
          generalize nth l k = y at *
          go_wp2_with fail
          go_quiet (fail)
          clear g0 g1 g0' g1' hneq
          replace HB : Hid (Blw w (wr.drewN nq)) := HB.out.drewN nq
          go_wp2
          go_ret
          exact ⟨false, rfl, by simp [BOf, HE.out], HB.out⟩
      · obtain rfl : k = l.length := by omega
        have HE : Hid (l = m) := list_ext hl HJ.out
        clear HJ
        go_wp2
        go_ret
        exact ⟨true, rfl, by simp [BOf, HE.out], hb⟩
  · have hne : ((l.length : Int) != (m.length : Int)) = true := by simp; omega
    have HE : Hid (¬ l = m) := fun e => hl (by rw [e])
    go_enter Try.func78, Try.ntmps78
    go_wp2
    go_ret
    exact ⟨false, rfl, by simp [BOf, HE.out], Blw.refl _⟩
set_option maxHeartbeats 1600000 in
theorem equalF_any (a1 a2 : Option Addr) (c1 c2 : Nat) (R S : Rws) (Y Z : Nat → Prop) (w : World) (h1 : PSAt Y w a1 (pdn 16 R)) (h2 : PSAt Z w a2 (pdn 16 S)) :
    Calls Try.prog 77 #[.slice a1 16 c1, .slice a2 16 c2, .func (.func 78) #[] #[]] w fun e w' => ∃ b, e = .returned (.bool b) ∧ BOf (∀ k, k < 16 → R k = S k) b ∧ Blw w w' := by
  have H1 : Hid (PSAt Y w a1 (pdn 16 R)) := h1
  have H2 : Hid (PSAt Z w a2 (pdn 16 S)) := h2
  clear h1 h2
  go_enter Try.func77, Try.ntmps77
  go_wp2
  go_loopw [17] (fun i wr => ∃ k : Nat, k ≤ 16 ∧ i = .int .i64 k ∧ Blw w wr ∧ Hid (∀ j, j < k → R j = S j)) (fun i _ => 16 - (intOf i).toNat)
  case atStart => exact ⟨0, Nat.zero_le _, rfl, Blw.refl _, fun j hj => absurd hj (Nat.not_lt_zero _)⟩
  case round =>
    obtain ⟨k, hk, rfl, hb, HJ⟩ := hrel
    by_cases hlt : k < 16
    · obtain ⟨b, o, a, c, rfl, -, g1, k1⟩ := (H1.out.blw hb).2 k hlt
      obtain ⟨b', o', a', c', rfl, -, g2, k2⟩ := (H2.out.blw hb).2 k hlt
      dsimp only at g1 g2 k1 k2
      have hlt' : (k : Int) < 16 := by omega
      have K1 : Hid (UndosAt Y wr a (R k).length (lf (R k)) (la (R k))) := k1
      have K2 : Hid (UndosAt Z wr a' (S k).length (lf (S k)) (la (S k))) := k2
      have HB : Hid (Blw w wr) := hb
      clear k1 k2 hb
      by_cases he : R k = S k
      · have HE : Hid (R k = S k) := he
        have HJ2 : Hid (∀ j, j < k + 1 → R j = S j) := fun j hj => by
          by_cases e : j = k
          · rw [e]; exact he
          · exact HJ.out j (by omega)
        clear he HJ
        go_wp2_with (first | (go_at_call 78; refine (equal_any _ _ _ _ (R k) (S k) Y Z _ K1.out K2.out).mono ?_; rintro e w' ⟨bb, rfl, hbb, hb2⟩; obtain rfl : bb = true := hbb.2 HE.out; clear hbb))
        replace HB : Hid (Blw w w') := HB.out.trans hb2
        go_roundw
        case rel => exact ⟨k + 1, by omega, by go_num, HB.out, HJ2.out⟩
        case measure => simp [intOf]; omega
      · have HE : Hid (¬ R k = S k) := he
        clear he HJ
        go_wp2_with (first | (go_at_call 78; refine (equal_any _ _ _ _ (R k) (S k) Y Z _ K1.out K2.out).mono ?_; rintro e w' ⟨bb, rfl, hbb, hb2⟩; obtain rfl : bb = false := by (cases bb; rfl; exact absurd (hbb.1 rfl) HE.out)))
        replace HB : Hid (Blw w w') := HB.out.trans hb2
        go_ret
        exact ⟨false, rfl, by simp only [BOf, Bool.false_eq_true, false_iff]; exact fun hh => HE.out (hh k hlt), HB.out⟩
    · obtain rfl : k = 16 := by omega
      go_wp2
      go_ret
      exact ⟨true, rfl, by simp only [BOf, true_iff]; exact HJ.out, hb⟩
end Go.Proofs.Ytkmkidahaagbpaa
