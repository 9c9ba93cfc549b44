/- 'spec.FlushLine' and 'impl.FlushLine'. -/
import Derived.Test.YtglllnklcnlcjaaFlushI
namespace Go.Proofs.Ytglllnklcnlcjaa
open Go.RowKit
set_option linter.unusedSimpArgs false
/-- What FlushLine answers. -/
def flOut (M : MD) (at_ : Int) (M' : MD) (b : Bool) : Prop :=
  (M.Good ∧ ∃ n : Nat, at_ = n ∧ n < 12 ∧ M' = MD.full (flS M.v1 M.v2 n) M.v2 (flD M.d n) ∧ b = true) ∨ (¬ (M.Good ∧ (0 ≤ at_ ∧ at_ ≤ 11)) ∧ M' = MZ ∧ b = false)
theorem flOut_same {M M1 M2 : MD} {at_ : Int} {b c : Bool} (h : flOut M at_ M1 b) (k : flOut M at_ M2 c) : M1 = M2 ∧ b = c := by
  rcases h with ⟨g, n, rfl, hn, rfl, rfl⟩ | ⟨g, rfl, rfl⟩
  · rcases k with ⟨_, n', e, hn', rfl, rfl⟩ | ⟨g', rfl, rfl⟩
    · obtain rfl : n = n' := by omega
      exact ⟨rfl, rfl⟩
    · exact absurd ⟨g, by omega⟩ g'
  · rcases k with ⟨g', n', e, hn', rfl, rfl⟩ | ⟨g', rfl, rfl⟩
    · exact absurd ⟨g', by omega⟩ g
    · exact ⟨rfl, rfl⟩
theorem flOut_total {M M1 : MD} {at_ : Int} {b : Bool} (h : flOut M at_ M1 b) : M1.total ≤ 108 := by
  rcases h with ⟨g, n, rfl, hn, rfl, rfl⟩ | ⟨g, rfl, rfl⟩
  · rw [total_full]; omega
  · rw [total_zero]; omega
set_option maxHeartbeats 400000 in
theorem isLine_yes (n : Int) (w : World) (h1 : 0 ≤ n) (h2 : n ≤ 11) : Calls Try.prog 115 #[.int .i64 n] w fun e w' => e = .returned (.bool true) ∧ w' = w := by
  have hd : decide (n < 12) = true := by simp; omega
  go_enter Try.func115, Try.ntmps115
  go_wp2
  go_ret
  exact ⟨rfl, rfl⟩
set_option maxHeartbeats 400000 in
theorem isLine_no (n : Int) (w : World) (h : ¬ (0 ≤ n ∧ n ≤ 11)) : Calls Try.prog 115 #[.int .i64 n] w fun e w' => e = .returned (.bool false) ∧ w' = w := by
  by_cases h1 : 0 ≤ n
  · have h2 : ¬ n < 12 := fun h3 => h ⟨h1, by omega⟩
    clear h
    go_enter Try.func115, Try.ntmps115
    go_wp2
    go_ret
    exact ⟨rfl, rfl⟩
  · clear h
    have hd : decide (0 ≤ n) = false := by simpa using h1
    go_enter Try.func115, Try.ntmps115
    go_wp2
    go_ret
    exact ⟨rfl, rfl⟩
set_option maxHeartbeats 1600000 in
theorem specFlush_any (m : MV) (M : MD) (Y : Nat → Prop) (w : World) (at_ : Int) (h : MemAt Y w m M) :
    Calls Try.prog 113 #[m.val M, .int .i64 at_] w (Gives (flOut M at_) w) := by
  go_enter Try.func113, Try.ntmps113
  go_wp2_with fail
  have hb0 : Blw w ((w.alloc (.cells #[.slice m.a1 M.n1 m.c1, .slice m.a2 M.n2 m.c2, .slice m.a3 M.n3 m.c3] 26)).alloc (.cells #[.slice none 0 0, .slice none 0 0, .slice none 0 0] 26)) := ((Blw.refl _).alloc _).alloc _
  have rA := (box3 w (.slice m.a1 M.n1 m.c1) (.slice m.a2 M.n2 m.c2) (.slice m.a3 M.n3 m.c3) 26).blw ((Blw.refl _).alloc (.cells #[.slice none 0 0, .slice none 0 0, .slice none 0 0] 26))
  have rR := res_row w (.slice m.a1 M.n1 m.c1) (.slice m.a2 M.n2 m.c2) (.slice m.a3 M.n3 m.c3)
  refine (goodS_any m M Y _ (h.blw hb0)).mono ?_
  rintro e w1 ⟨b, rfl, hgd, hb1⟩
  replace rA := rA.blw hb1
  replace rR := rR.blw hb1
  replace hb1 := hb0.trans hb1
  replace h := h.blw hb1
  clear hb0
  have HG : Hid (b = true ↔ M.Good) := hgd
  clear hgd
  cases b
  · have NG : Hid (¬ M.Good) := fun g => absurd (HG.out.2 g) (by decide)
    obtain ⟨⟨x0, x1, x2⟩, f0, f1, f2⟩ := res6 rR
    clear HG rA h rR
    go_wp2
    exact bodyPost_ret (v := .tuple #[.agg #[.slice none 0 0, .slice none 0 0, .slice none 0 0], .bool false]) (by simp [results, Try.results113, go_sem, x0, x1, x2]) rfl (zero_gives (Or.inr ⟨fun g => NG.out g.1, rfl, rfl⟩) hb1)
  · have GD : Hid M.Good := HG.out.1 rfl
    clear HG
    by_cases hat : 0 ≤ at_ ∧ at_ ≤ 11
    · obtain ⟨n, rfl⟩ := Int.eq_ofNat_of_zero_le hat.1
      have hn : n < 12 := by omega
      clear hat
      obtain ⟨p0, p1, p2⟩ := get3 rA
      go_wp2_with fail
      refine (l1In_yes _ _ _ _ (by omega) (by omega)).mono ?_
      rintro e w1 ⟨rfl, rfl⟩
      go_wp2_with fail
      clear p0 p1 p2
      refine (l1Own_any m M Y _ GD.out h).mono ?_
      rintro e w2 ⟨m2, rfl, own, hb2⟩
      simp only [MV.val, MD.full]
      have rlt := rR.lt
      replace rR := rR.blw hb2
      have z1 := hb1.size
      replace hb2 := hb1.trans hb2
      clear rA h hb1
      go_wp2_with fail
      have hbA : Blw w2 (w2.alloc (.cells #[.slice m2.a1 12 m2.c1, .slice m2.a2 12 m2.c2, .slice m2.a3 12 m2.c3] 26)) := (Blw.refl _).alloc _
      have rM := box3 w2 (.slice m2.a1 12 m2.c1) (.slice m2.a2 12 m2.c2) (.slice m2.a3 12 m2.c3) 26
      refine (l1Flush_any m2 M.v1 M.v2 M.d _ _ n hn (own.blw hbA) (fun b hb => by have := hb.2; have := hbA.size; omega)).mono ?_
      rintro e w3 ⟨⟨v, rfl⟩, own3, hm3⟩
      obtain ⟨q0, q1, q2⟩ := get3 (rM.mod hm3 (fun hh => by have := hh.2; omega))
      obtain ⟨⟨x0, x1, x2⟩, f0, f1, f2⟩ := res6 ((rR.blw hbA).mod hm3 (fun hh => by have := hh.1; omega))
      have hb3 : Blw w w3 := Mod.blw (hb2.trans hbA) hm3 (fun i hi => by have := hi.1; omega)
      have zA := hbA.size
      have z3 := hm3.size
      have zr := (rR.blw hbA).lt
      clear hbA rM rR own hm3 hb2
      go_wp2
      exact bodyPost_ret (v := .tuple #[.agg #[.slice m2.a1 12 m2.c1, .slice m2.a2 12 m2.c2, .slice m2.a3 12 m2.c3], .bool true]) (by simp [results, Try.results113, go_sem, x0, x1, x2]) rfl (some_gives (Or.inl ⟨GD.out, n, rfl, hn, rfl, rfl⟩) hb3 own3 (fun b hb => by rcases hb with hb | hb <;> (have := hb.1; have := hb.2; exact ⟨by omega, by omega⟩)) rfl)
    · have NX : Hid (¬ (0 ≤ at_ ∧ at_ ≤ 11)) := hat
      obtain ⟨⟨x0, x1, x2⟩, f0, f1, f2⟩ := res6 rR
      clear hat rA h rR
      go_wp2_with fail
      refine (l1In_no _ _ _ _ NX.out).mono ?_
      rintro e w1 ⟨rfl, rfl⟩
      go_wp2
      exact bodyPost_ret (v := .tuple #[.agg #[.slice none 0 0, .slice none 0 0, .slice none 0 0], .bool false]) (by simp [results, Try.results113, go_sem, x0, x1, x2]) rfl (zero_gives (Or.inr ⟨fun g => NX.out g.2, rfl, rfl⟩) hb1)
end Go.Proofs.Ytglllnklcnlcjaa
