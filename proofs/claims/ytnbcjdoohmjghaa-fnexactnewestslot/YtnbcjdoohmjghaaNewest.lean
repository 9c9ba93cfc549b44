/- 'impl.NewestSlot' and 'spec.NewestSlot'. -/
import Derived.Test.YtnbcjdoohmjghaaSlotM
namespace Go.Proofs.Ytnbcjdoohmjghaa
open Go.RowKit
set_option linter.unusedSimpArgs false
set_option linter.unusedVariables false
/-- The newest of the first k slots. -/
def nw (f : Nat → T3) : Nat → T3
  | 0 => (0, 0, 0)
  | k + 1 => if (nw f k).1 < (f k).1 then f k else nw f k
theorem nw_yes {f : Nat → T3} {k : Nat} (h : (nw f k).1 < (f k).1) : nw f (k + 1) = f k := by simp [nw, h]
theorem nw_no {f : Nat → T3} {k : Nat} (h : ¬ (nw f k).1 < (f k).1) : nw f (k + 1) = nw f k := by simp [nw, h]
theorem rdL_ok (c : Nat → Nat → Int) : ∀ k, ∀ t ∈ rdL c k, 1 ≤ t.1 := by
  intro k
  induction k with
  | zero => intro t ht; simp [rdL] at ht
  | succ k ih =>
    intro t ht
    by_cases h : recI (c k) k
    · rw [rdL_yes h, List.mem_append] at ht
      rcases ht with ht | ht
      · exact ih t ht
      · simp only [List.mem_singleton] at ht
        subst ht
        exact h.1.1.1
    · rw [rdL_no h] at ht
      exact ih t ht
theorem nw_ok {M : MD} {n : Nat} {f : Nat → T3} {b : Bool} (h : rsOut M n f b) : ∀ k, k ≤ n → nw f k = (0, 0, 0) ∨ 1 ≤ (nw f k).1 := by
  have hf : ∀ i, i < n → 1 ≤ (f i).1 := by
    intro i hi
    rcases h with ⟨_, rfl, rfl, _⟩ | ⟨_, rfl, _, _⟩
    · have e : lf (rdL M.v2 2) i = (rdL M.v2 2)[i] := by simp [lf, hi]
      rw [e]
      exact rdL_ok M.v2 2 _ (List.getElem_mem _)
    · omega
  intro k
  induction k with
  | zero => intro _; exact Or.inl rfl
  | succ k ih =>
    intro hk
    by_cases h2 : (nw f k).1 < (f k).1
    · rw [nw_yes h2]; exact Or.inr (hf k (by omega))
    · rw [nw_no h2]; exact ih (by omega)
/-- What NewestSlot answers. -/
def nsOut (M : MD) (e a b : Int) (ok : Bool) : Prop := ∃ n f c, rsOut M n f c ∧ (e, a, b) = nw f n ∧ ok = decide (0 < e)
theorem nsOut_same {M : MD} {e a b e' a' b' : Int} {x y : Bool} (h : nsOut M e a b x) (k : nsOut M e' a' b' y) : e = e' ∧ a = a' ∧ b = b' ∧ x = y := by
  obtain ⟨n, f, c, h1, h2, rfl⟩ := h
  obtain ⟨n', f', c', k1, k2, rfl⟩ := k
  obtain ⟨rfl, rfl, rfl⟩ := rsOut_same h1 k1
  rw [← h2] at k2
  simp only [Prod.mk.injEq] at k2
  obtain ⟨rfl, rfl, rfl⟩ := k2
  exact ⟨rfl, rfl, rfl, rfl⟩
abbrev sbox (w : World) (z : Nat) (t : T3) : Prop := Row w z 3 (fun i => if i = 0 then Value.int .i64 t.1 else if i = 1 then .int .i64 t.2.1 else .int .i64 t.2.2)
set_option maxRecDepth 10000 in
set_option maxHeartbeats 3200000 in
theorem implNewest_any (m : MV) (M : MD) (Y : Nat → Prop) (w : World) (h : MemAt Y w m M) :
    Calls Try.prog 43 #[m.val M] w fun r w' => ∃ e a b ok, r = .returned (.tuple #[slotV e a b, .bool ok]) ∧ nsOut M e a b ok ∧ Blw w w' := by
  go_enter Try.func43, Try.ntmps43
  go_wp2_with fail
  have hb0 : Blw w ((w.alloc (.cells #[.slice m.a1 M.n1 m.c1, .slice m.a2 M.n2 m.c2, .slice m.a3 M.n3 m.c3] 26)).alloc (.cells #[.int .i64 0, .int .i64 0, .int .i64 0] 56)) := ((Blw.refl _).alloc _).alloc _
  have rR := box3 (w.alloc (.cells #[.slice m.a1 M.n1 m.c1, .slice m.a2 M.n2 m.c2, .slice m.a3 M.n3 m.c3] 26)) (.int .i64 0) (.int .i64 0) (.int .i64 0) 56
  rw [World.size_alloc] at rR
  refine (implRead_any m M Y _ (h.blw hb0)).mono ?_
  rintro r w1 ⟨ao, n, c, f, bb, rfl, hout, own, hb1⟩
  have HO : Hid (rsOut M n f bb) := hout
  replace rR := rR.blw hb1
  have rlt := rR.lt
  replace hb1 := hb0.trans hb1
  have hn2 := own.1
  have zz := hb1.size
  clear hout hb0 h
  have HA : Hid (SlotsOwn _ w1 ao n f) := own
  clear own
  go_wp2_with fail
  have hA : Blw w1 (w1.alloc (.cells #[.int .i64 0, .int .i64 0, .int .i64 0] 56)) := (Blw.refl _).alloc _
  have r6 := box3 w1 (.int .i64 0) (.int .i64 0) (.int .i64 0) 56
  have HS : Hid (SlotsOwn (fun b => b < w1.heap.size) _ ao n f ∧ sbox _ (w.heap.size + 1) (0, 0, 0) ∧ sbox _ w1.heap.size (0, 0, 0) ∧ Blw w _) := And.intro ((HA.out.mono (fun b hb => hb.2)).blw hA) (And.intro (rR.blw hA) (And.intro r6 (hb1.trans hA)))
  clear HA hA r6 rR hb1
  generalize w1.alloc (.cells #[.int .i64 0, .int .i64 0, .int .i64 0] 56) = w2 at *
  generalize w1.heap.size = z at *
  go_loopw [16] (fun i wr => ∃ k : Nat, k ≤ n ∧ i = .int .i64 k ∧ sbox wr z (nw f k) ∧ Mod (fun x => x = z) w2 wr) (fun i _ => n - (intOf i).toNat)
  case atStart => exact ⟨0, Nat.zero_le _, rfl, HS.out.2.2.1, Mod.refl _ _⟩
  case round =>
    obtain ⟨k, hk, rfl, r6, hm⟩ := hrel
    by_cases hlt : k < n
    · have hlt' : (k : Int) < n := by omega
      obtain ⟨b, hx, rfl, rr⟩ := (HS.out.1.mod hm (fun b hb => by omega)).2 (by omega)
      obtain ⟨p0, p1, p2⟩ := slot_get rr hlt
      have QA := fun o => get3 (r6.blw ((Blw.refl wr).alloc o))
      have f0 := fun o => (r6.blw ((Blw.refl wr).alloc o)).frozen 0
      have f1 := fun o => (r6.blw ((Blw.refl wr).alloc o)).frozen 1
      have f2 := fun o => (r6.blw ((Blw.refl wr).alloc o)).frozen 2
      have hmA : Mod (fun x => x = z) w2 (wr.alloc (.cells #[.int .i64 (f k).1, .int .i64 (f k).2.1, .int .i64 (f k).2.2] 56)) := hm.trans (((Blw.refl wr).alloc _).mod _)
      have r6A := r6.blw ((Blw.refl wr).alloc (.cells #[.int .i64 (f k).1, .int .i64 (f k).2.1, .int .i64 (f k).2.2] 56))
      by_cases hg : (nw f k).1 < (f k).1
      · have I : Hid (sbox _ z (nw f (k + 1)) ∧ Mod (fun x => x = z) w2 _) := And.intro (by rw [nw_yes hg]; exact box_put r6A (.int .i64 (f k).1) (.int .i64 (f k).2.1) (.int .i64 (f k).2.2)) (hmA.trans (mod_set3 _ z (.int .i64 (f k).1) (.int .i64 (f k).2.1) (.int .i64 (f k).2.2)))
        have d1 : decide ((f k).1 > (nw f k).1) = true := by simp; omega
        clear r6 hm rr hmA r6A
        go_wp2
        go_roundw
        case rel => exact ⟨k + 1, by omega, by go_num, I.out⟩
        case measure => simp [intOf]; omega
      · have I : Hid (sbox _ z (nw f (k + 1)) ∧ Mod (fun x => x = z) w2 _) := And.intro (by rw [nw_no hg]; exact r6A) hmA
        have d1 : decide ((f k).1 > (nw f k).1) = false := by simp; omega
        clear r6 hm rr hmA r6A
        go_wp2
        go_roundw
        case rel => exact ⟨k + 1, by omega, by go_num, I.out⟩
        case measure => simp [intOf]; omega
    · obtain rfl : k = n := by omega
      have rR := HS.out.2.1.mod hm (by omega)
      have hbW : Blw w wr := Mod.blw HS.out.2.2.2 hm (fun i hi => by omega)
      obtain ⟨x0, x1, x2⟩ := get3 rR
      have f0 := rR.frozen 0
      have f1 := rR.frozen 1
      have f2 := rR.frozen 2
      have HK : Hid (nw f k = (0, 0, 0) ∨ 1 ≤ (nw f k).1) := nw_ok HO.out k (Nat.le_refl _)
      obtain ⟨⟨e, a, b⟩, het⟩ : ∃ t, nw f k = t := ⟨_, rfl⟩
      rw [het] at HK r6
      obtain ⟨Z0, Z1, Z2⟩ := box3_mod (R := w.heap.size + 1) r6 (by omega)
      clear r6 hm HS rR
      rcases HK.out with hz | hz
      · simp only [Prod.mk.injEq] at hz
        obtain ⟨rfl, rfl, rfl⟩ := hz
        go_wp2_with fail
        go_region_held3 (fun w' => Mod (fun x => x = w.heap.size + 1) wr w') ((first | exact (Mod.refl _ _).drew | assumption | exact Mod.trans (by assumption) (mod_set3 _ _ _ _ _))) (fail)
        all_goals go_wp2
        all_goals exact bodyPost_ret (v := .tuple #[slotV 0 0 0, .bool false]) (by simp [results, Try.results43, go_sem, x0, x1, x2]) rfl ⟨0, 0, 0, false, rfl, ⟨k, f, bb, HO.out, het.symm, by decide⟩, Mod.blw hbW (by assumption) (fun i hi => by omega)⟩
      · have hz' : 1 ≤ e := hz
        have hz0 : ¬ e = 0 := by omega
        have hz1 : (e == 0) = false := by simp; omega
        clear HK hz
        go_wp2_with fail
        go_region_held3 (fun w' => Mod (fun x => x = w.heap.size + 1) wr w') ((first | exact (Mod.refl _ _).drew | assumption | exact Mod.trans (by assumption) (mod_set3 _ _ _ _ _))) (fail)
        all_goals go_wp2
        all_goals exact bodyPost_ret (v := .tuple #[slotV e a b, .bool true]) (by simp [results, Try.results43, go_sem, x0, x1, x2]) rfl ⟨e, a, b, true, rfl, ⟨k, f, bb, HO.out, het.symm, by simp; omega⟩, Mod.blw hbW (by assumption) (fun i hi => by omega)⟩
end Go.Proofs.Ytnbcjdoohmjghaa
