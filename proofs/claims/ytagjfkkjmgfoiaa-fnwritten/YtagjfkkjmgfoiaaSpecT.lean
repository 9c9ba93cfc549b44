/- The model's 'l3Touched' and 'l3Own'. -/
import Derived.Test.YtagjfkkjmgfoiaaPut
namespace Go.Proofs.Ytagjfkkjmgfoiaa
open Go.RowKit
set_option linter.unusedSimpArgs false
set_option linter.unusedVariables false
/-- The cells of a log, rising. -/
def tOut (k : Nat) (lc : Nat → Int) (n : Nat) (f : Nat → Int) : Prop := rising n f ∧ ∀ x, isIn n f x ↔ ∃ t, t < k ∧ lc t = x
theorem tOut_le {k : Nat} {lc : Nat → Int} {n n' : Nat} {f f' : Nat → Int} (h : tOut k lc n f) (h' : tOut k lc n' f') : ∀ i, i < n → i < n' ∧ f i = f' i := by
  have key : ∀ m i, i ≤ m → i < n → i < n' ∧ f i = f' i := by
    intro m
    induction m with
    | zero =>
      intro i hi hn
      obtain rfl : i = 0 := by omega
      obtain ⟨j, hj, e⟩ := (h'.2 (f 0)).2 ((h.2 (f 0)).1 ⟨0, hn, rfl⟩)
      refine ⟨by omega, ?_⟩
      obtain ⟨q, hq, e2⟩ := (h.2 (f' 0)).2 ((h'.2 (f' 0)).1 ⟨0, by omega, rfl⟩)
      rcases Nat.eq_zero_or_pos j with rfl | hj0
      · exact e.symm
      · have h1 := h'.1 0 j hj0 hj
        rcases Nat.eq_zero_or_pos q with rfl | hq0
        · exact e2
        · have h2 := h.1 0 q hq0 hq
          omega
    | succ m ih =>
      intro i hi hn
      by_cases him : i ≤ m
      · exact ih i him hn
      obtain rfl : i = m + 1 := by omega
      obtain ⟨hm1, hm2⟩ := ih m (Nat.le_refl _) (by omega)
      have hlt := h.1 m (m + 1) (by omega) hn
      obtain ⟨j, hj, e⟩ := (h'.2 (f (m + 1))).2 ((h.2 (f (m + 1))).1 ⟨m + 1, hn, rfl⟩)
      have hjm : m < j := by
        rcases Nat.lt_trichotomy j m with hh | hh | hh
        · have := h'.1 j m hh hm1
          omega
        · subst hh; omega
        · exact hh
      refine ⟨by omega, ?_⟩
      obtain ⟨q, hq, e2⟩ := (h.2 (f' (m + 1))).2 ((h'.2 (f' (m + 1))).1 ⟨m + 1, by omega, rfl⟩)
      have hlt' := h'.1 m (m + 1) (by omega) (by omega)
      have hqm : m < q := by
        rcases Nat.lt_trichotomy q m with hh | hh | hh
        · have := h.1 q m hh (by omega)
          omega
        · subst hh; omega
        · exact hh
      by_cases hj1 : j = m + 1
      · subst hj1; exact e.symm
      · have h1 := h'.1 (m + 1) j (by omega) hj
        by_cases hq1 : q = m + 1
        · subst hq1; exact e2
        · have h2 := h.1 (m + 1) q (by omega) hq
          omega
  exact fun i hi => key i i (Nat.le_refl _) hi
theorem tOut_same {k : Nat} {lc : Nat → Int} {n n' : Nat} {f f' : Nat → Int} (h : tOut k lc n f) (h' : tOut k lc n' f') : n = n' ∧ ∀ i, i < n → f i = f' i := by
  refine ⟨?_, fun i hi => (tOut_le h h' i hi).2⟩
  rcases Nat.lt_trichotomy n n' with hh | hh | hh
  · have := (tOut_le h' h n hh).1
    omega
  · exact hh
  · have := (tOut_le h h' n' hh).1
    omega
/-- What stands in l3Touched behind j entries. -/
structure Touching (Y : Nat → Prop) (w wr : World) (b : BV) (B : BD) (v : Value) (j : Nat) : Prop where
  blw : Blw w wr
  bk : BookAt Y wr b B
  ex : ∃ n f, tOut j B.lc n f ∧ n ≤ j ∧ BufI (fun b => w.heap.size ≤ b ∧ b < wr.heap.size) wr v n f
set_option maxHeartbeats 1600000 in
theorem l3Touched_any (b : BV) (B : BD) (Y : Nat → Prop) (w : World) (hk : B.k ≤ 100) (h : BookAt Y w b B) :
    Calls Try.prog 73 #[b.val B] w fun e w' => ∃ v, e = .returned v ∧ ∃ n f, tOut B.k B.lc n f ∧ n ≤ B.k ∧ BufI (fun x => w.heap.size ≤ x ∧ x < w'.heap.size) w' v n f ∧ Blw w w' := by
  have hb0 : Blw w (w.alloc (.cells #[.slice b.a1 B.n b.c1, .slice b.a2 B.k b.c2] 26)) := (Blw.refl _).alloc _
  have H0 : Hid (Touching Y w (w.alloc (.cells #[.slice b.a1 B.n b.c1, .slice b.a2 B.k b.c2] 26)) b B (.slice none 0 0) 0) := ⟨hb0, h.blw hb0, 0, fun _ => 0, ⟨fun i j _ hj => absurd hj (Nat.not_lt_zero _), fun x => ⟨fun ⟨i, hi, _⟩ => absurd hi (Nat.not_lt_zero _), fun ⟨i, hi, _⟩ => absurd hi (Nat.not_lt_zero _)⟩⟩, Nat.le_refl _, Buf.nil _ _ _ _ _⟩
  clear h hb0
  obtain ⟨n, c, k, lc, lw⟩ := B
  dsimp only at hk
  go_enter Try.func73, Try.ntmps73
  go_wp2_with fail
  go_loopw [3, 9] (fun v i wr => ∃ j : Nat, j ≤ k ∧ i = .int .i64 j ∧ Touching Y w wr b ⟨n, c, k, lc, lw⟩ v j) (fun _ i _ => k - (intOf i).toNat)
  case atStart => exact ⟨0, by omega, rfl, H0.out⟩
  case round =>
    obtain ⟨j, hj, rfl, hd⟩ := hrel
    clear H0
    have HD : Hid (Touching Y w wr b ⟨n, c, k, lc, lw⟩ u3 j) := hd
    clear hd
    by_cases hlt : j < k
    · have hlt' : (j : Int) < k := by omega
      obtain ⟨b2, o2, e2, -, q0, q1⟩ := HD.out.bk.l.2 j hlt
      dsimp only at e2 q0 q1
      rw [e2]
      have hA : Blw wr (wr.alloc (.cells #[.int .i64 (lc j), .int .i64 (lw j)] 69)) := (Blw.refl _).alloc _
      obtain ⟨n1, f1, ht, hn1, hbuf⟩ := HD.out.ex
      have HT : Hid (tOut j lc n1 f1) := ht
      have HBF : Hid (BufI (fun b => w.heap.size ≤ b ∧ b < wr.heap.size) (wr.alloc (.cells #[.int .i64 (lc j), .int .i64 (lw j)] 69)) u3 n1 f1) := Buf.blw hbuf hA
      have HW : Hid (Blw w (wr.alloc (.cells #[.int .i64 (lc j), .int .i64 (lw j)] 69))) := HD.out.blw.trans hA
      have HK : Hid (BookAt Y (wr.alloc (.cells #[.int .i64 (lc j), .int .i64 (lw j)] 69)) b ⟨n, c, k, lc, lw⟩) := HD.out.bk.blw hA
      obtain ⟨q2, q3⟩ := get2 (box2 wr (.int .i64 (lc j)) (.int .i64 (lw j)) 69)
      clear HD ht hbuf hA e2
      go_wp2_with fail
      clear q0 q1 q2 q3
      refine (l1Put_any _ _ n1 f1 (lc j) _ (by omega) (fun b hb => by simp; omega) HT.out.1 HBF.out).mono ?_
      rintro e w2 ⟨v2, rfl, n2, f2, hp, hb2, hw2⟩
      have HS : Hid (Touching Y w w2 b ⟨n, c, k, lc, lw⟩ v2 (j + 1)) := by
        have h0 := HW.out.size
        simp only [World.size_alloc] at h0
        refine ⟨HW.out.trans hw2, HK.out.blw hw2, n2, f2, ⟨hp.r, fun x => ?_⟩, by have := hp.le; omega, Buf.mono hb2 (fun b hb => ?_)⟩
        · rw [hp.m x, HT.out.2 x]
          constructor
          · rintro (⟨t, ht, e⟩ | e)
            · exact ⟨t, by omega, e⟩
            · exact ⟨j, by omega, e.symm⟩
          · rintro ⟨t, ht, e⟩
            by_cases e2 : t = j
            · subst e2; exact Or.inr e.symm
            · exact Or.inl ⟨t, by omega, e⟩
        · simp only [World.size_alloc] at hb
          rcases hb.1 with hh | hh
          · exact ⟨hh.1, hb.2⟩
          · exact ⟨by omega, hb.2⟩
      clear HT HBF HW HK hp hb2 hw2
      go_wp2
      go_roundw
      case rel => exact ⟨j + 1, by omega, by go_num, HS.out⟩
      case measure => simp [intOf]; omega
    · obtain rfl : j = k := by omega
      go_wp2
      go_ret
      obtain ⟨n1, f1, ht, hn1, hbuf⟩ := HD.out.ex
      exact ⟨_, rfl, n1, f1, ht, hn1, hbuf, HD.out.blw⟩
end Go.Proofs.Ytagjfkkjmgfoiaa
