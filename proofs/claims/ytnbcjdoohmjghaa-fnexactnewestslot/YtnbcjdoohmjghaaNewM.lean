/- 'spec.NewestSlot', and the law. -/
import Derived.Test.YtnbcjdoohmjghaaNewest
namespace Go.Proofs.Ytnbcjdoohmjghaa
open Go.RowKit
set_option linter.unusedSimpArgs false
set_option linter.unusedVariables false
set_option maxRecDepth 10000 in
set_option maxHeartbeats 3200000 in
theorem specNewest_any (m : MV) (M : MD) (Y : Nat → Prop) (w : World) (h : MemAt Y w m M) :
    Calls Try.prog 44 #[m.val M] w fun r w' => ∃ e a b ok, r = .returned (.tuple #[slotV e a b, .bool ok]) ∧ nsOut M e a b ok ∧ Blw w w' := by
  go_enter Try.func44, Try.ntmps44
  go_wp2_with fail
  have hb0 : Blw w ((w.alloc (.cells #[.slice m.a1 M.n1 m.c1, .slice m.a2 M.n2 m.c2, .slice m.a3 M.n3 m.c3] 26)).alloc (.cells #[.int .i64 0, .int .i64 0, .int .i64 0] 56)) := ((Blw.refl _).alloc _).alloc _
  have rA := (box3 w (.slice m.a1 M.n1 m.c1) (.slice m.a2 M.n2 m.c2) (.slice m.a3 M.n3 m.c3) 26).blw ((Blw.refl _).alloc (.cells #[.int .i64 0, .int .i64 0, .int .i64 0] 56))
  have rR := box3 (w.alloc (.cells #[.slice m.a1 M.n1 m.c1, .slice m.a2 M.n2 m.c2, .slice m.a3 M.n3 m.c3] 26)) (.int .i64 0) (.int .i64 0) (.int .i64 0) 56
  rw [World.size_alloc] at rR
  refine (goodS_any m M Y _ (h.blw hb0)).mono ?_
  rintro r w0 ⟨b, rfl, hgd, hb1⟩
  replace rA := rA.blw hb1
  replace rR := rR.blw hb1
  replace hb1 := hb0.trans hb1
  replace h := h.blw hb1
  clear hb0
  have HG : Hid (b = true ↔ M.Good) := hgd
  clear hgd
  cases b
  · have NG : Hid (¬ M.Good) := fun g => absurd (HG.out.2 g) (by decide)
    obtain ⟨x0, x1, x2⟩ := get3 rR
    have f0 := rR.frozen 0
    have f1 := rR.frozen 1
    have f2 := rR.frozen 2
    clear HG rA h rR
    go_wp2
    exact bodyPost_ret (v := .tuple #[slotV 0 0 0, .bool false]) (by simp [results, Try.results44, go_sem, x0, x1, x2]) rfl ⟨0, 0, 0, false, rfl, ⟨0, _, false, Or.inr ⟨NG.out, rfl, rfl, rfl⟩, rfl, by decide⟩, ((hb1.setCell (Nat.le_succ _) _).setCell (Nat.le_succ _) _).setCell (Nat.le_succ _) _⟩
  · have GD : Hid M.Good := HG.out.1 rfl
    have rlt := rR.lt
    have hA0 : Blw w0 (w0.alloc (.cells #[.int .i64 0, .int .i64 0, .int .i64 0] 56)) := (Blw.refl _).alloc _
    have r6 := box3 w0 (.int .i64 0) (.int .i64 0) (.int .i64 0) 56
    obtain ⟨p0, p1, p2⟩ := get3 (rA.blw hA0)
    clear HG
    go_wp2_with fail
    refine (l2Read_any m M Y _ GD.out (h.blw hA0)).mono ?_
    rintro r w2 ⟨ao, cap, rfl, own, hb2⟩
    have zA := hA0.size
    have sz0 : (w0.alloc (.cells #[.int .i64 0, .int .i64 0, .int .i64 0] 56)).heap.size = w0.heap.size + 1 := by simp
    have HO : Hid (rsOut M (rdL M.v2 2).length (lf (rdL M.v2 2)) true) := Or.inl ⟨GD.out, rfl, rfl, rfl⟩
    have zz := hb1.size
    have hn2 := own.1
    have HS : Hid (SlotsOwn (fun b => w0.heap.size + 1 ≤ b) w2 ao (rdL M.v2 2).length (lf (rdL M.v2 2)) ∧ sbox w2 (w.heap.size + 1) (0, 0, 0) ∧ sbox w2 w0.heap.size (0, 0, 0) ∧ Blw w w2) := And.intro (own.mono (fun b hb => by have := hb.1; omega)) (And.intro (rR.blw (hA0.trans hb2)) (And.intro (r6.blw hb2) (hb1.trans (hA0.trans hb2))))
    clear own hb2 hA0 r6 rA rR hb1 h p0 p1 p2
    generalize (rdL M.v2 2).length = n at *
    generalize lf (rdL M.v2 2) = f at *
    generalize w0.heap.size = z at *
    go_wp2_with fail
    go_loopw [14] (fun i wr => ∃ k : Nat, k ≤ n ∧ i = .int .i64 k ∧ sbox wr z (nw f k) ∧ Mod (fun x => x = z) w2 wr) (fun i _ => n - (intOf i).toNat)
    case atStart => exact ⟨0, Nat.zero_le _, rfl, HS.out.2.2.1, Mod.refl _ _⟩
    case round =>
      obtain ⟨k, hk, rfl, r6, hm⟩ := hrel
      by_cases hlt : k < n
      · have hlt' : (k : Int) < n := by omega
        obtain ⟨b, hx, rfl, rr⟩ := (HS.out.1.mod hm (fun b hb => by omega)).2 (by omega)
        obtain ⟨p0, p1, p2⟩ := slot_get rr hlt
        have QA := fun o => get3 (r6.blw ((Blw.refl wr).alloc o))
        have f0 := fun o => (r6.blw ((Blw.refl wr).alloc o)).frozen 0
        have f1 := fun o => (r6.blw ((Blw.refl wr).alloc o)).frozen 1
        have f2 := fun o => (r6.blw ((Blw.refl wr).alloc o)).frozen 2
        have hmA : Mod (fun x => x = z) w2 (wr.alloc (.cells #[.int .i64 (f k).1, .int .i64 (f k).2.1, .int .i64 (f k).2.2] 56)) := hm.trans (((Blw.refl wr).alloc _).mod _)
        have r6A := r6.blw ((Blw.refl wr).alloc (.cells #[.int .i64 (f k).1, .int .i64 (f k).2.1, .int .i64 (f k).2.2] 56))
        by_cases hg : (nw f k).1 < (f k).1
        · have I : Hid (sbox _ z (nw f (k + 1)) ∧ Mod (fun x => x = z) w2 _) := And.intro (by rw [nw_yes hg]; exact box_put r6A (.int .i64 (f k).1) (.int .i64 (f k).2.1) (.int .i64 (f k).2.2)) (hmA.trans (mod_set3 _ z (.int .i64 (f k).1) (.int .i64 (f k).2.1) (.int .i64 (f k).2.2)))
          have d1 : decide ((f k).1 > (nw f k).1) = true := by simp; omega
          clear r6 hm rr hmA r6A
          go_wp2
          go_roundw
          case rel => exact ⟨k + 1, by omega, by go_num, I.out⟩
          case measure => simp [intOf]; omega
        · have I : Hid (sbox _ z (nw f (k + 1)) ∧ Mod (fun x => x = z) w2 _) := And.intro (by rw [nw_no hg]; exact r6A) hmA
          have d1 : decide ((f k).1 > (nw f k).1) = false := by simp; omega
          clear r6 hm rr hmA r6A
          go_wp2
          go_roundw
          case rel => exact ⟨k + 1, by omega, by go_num, I.out⟩
          case measure => simp [intOf]; omega
      · obtain rfl : k = n := by omega
        have rR := HS.out.2.1.mod hm (by omega)
        have hbW : Blw w wr := Mod.blw HS.out.2.2.2 hm (fun i hi => by omega)
        obtain ⟨x0, x1, x2⟩ := get3 rR
        have f0 := rR.frozen 0
        have f1 := rR.frozen 1
        have f2 := rR.frozen 2
        obtain ⟨⟨e, a, b⟩, het⟩ : ∃ t, nw f k = t := ⟨_, rfl⟩
        rw [het] at r6
        obtain ⟨Z0, Z1, Z2⟩ := box3_mod (R := w.heap.size + 1) r6 (by omega)
        clear r6 hm HS rR
        go_wp2_with fail
        go_region_held3 (fun w' => Mod (fun x => x = w.heap.size + 1) wr w') ((first | exact (Mod.refl _ _).drew | assumption | exact Mod.trans (by assumption) (mod_set3 _ _ _ _ _))) (fail)
        all_goals go_wp2
        all_goals exact bodyPost_ret (v := .tuple #[slotV e a b, .bool (decide (0 < e))]) (by simp [results, Try.results44, go_sem, x0, x1, x2]) rfl ⟨e, a, b, decide (0 < e), rfl, ⟨k, f, true, HO.out, het.symm, rfl⟩, Mod.blw hbW (by assumption) (fun i hi => by omega)⟩
end Go.Proofs.Ytnbcjdoohmjghaa
