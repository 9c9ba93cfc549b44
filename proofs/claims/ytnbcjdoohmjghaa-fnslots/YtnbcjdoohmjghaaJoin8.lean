/- Merged by program, in this order: Same, NewM, FactT. -/
import Derived.Test.YtnbcjdoohmjghaaJoin7
/- What the laws' own 'sameMemory' and its parts answer. -/
namespace Go.Proofs.Ytnbcjdoohmjghaa
open Go.RowKit
set_option linter.unusedSimpArgs false
set_option maxHeartbeats 400000 in
theorem sameInts_yes (a1 a2 : Option Addr) (c1 c2 n0 : Nat) (f g : Nat → Int) {Y Z : Nat → Prop} (w : World) (h1 : IntsAt Y w a1 n0 f) (h2 : IntsAt Z w a2 n0 g) (he : ∀ i, i < n0 → f i = g i) :
    Calls Try.prog 21 #[.slice a1 n0 c1, .slice a2 n0 c2] w fun e w' => e = .returned (.bool true) ∧ ∃ n, w' = w.drewN n := by
  replace h2 := h2.congr (fun i hi => (he i hi).symm)
  clear he
  obtain ⟨hl, h1⟩ := h1
  obtain ⟨-, h2⟩ := h2
  go_enter Try.func21, Try.ntmps21
  go_wp2
  go_loopw [13] (fun i wr => ∃ k n : Nat, k ≤ n0 ∧ i = .int .i64 k ∧ wr = w.drewN n) (fun i _ => n0 - (intOf i).toNat)
  case atStart => exact ⟨0, 0, Nat.zero_le _, rfl, rfl⟩
  case round =>
    obtain ⟨k, n, hk, rfl, rfl⟩ := hrel
    by_cases hlt : k < n0
    · obtain ⟨b, o, rfl, -, g1⟩ := h1 k hlt
      obtain ⟨b', o', rfl, -, g2⟩ := h2 k hlt
      clear h1 h2
      go_wp2
      go_quiet (fail)
      go_wp2
      go_roundw
      case rel => exact ⟨k + 1, _, by omega, by go_num, rfl⟩
      case measure => simp [intOf]; omega
    · go_wp2
      go_ret
      exact ⟨rfl, n, rfl⟩
set_option maxHeartbeats 400000 in
theorem sameInts_no (a1 a2 : Option Addr) (c1 c2 n0 : Nat) (f g : Nat → Int) {Y Z : Nat → Prop} (w : World) (h1 : IntsAt Y w a1 n0 f) (h2 : IntsAt Z w a2 n0 g) (i : Nat) (hi : i < n0) (he : ¬ f i = g i) :
    Calls Try.prog 21 #[.slice a1 n0 c1, .slice a2 n0 c2] w fun e w' => e = .returned (.bool false) ∧ ∃ n, w' = w.drewN n := by
  obtain ⟨hl, h1⟩ := h1
  obtain ⟨-, h2⟩ := h2
  have HE : Hid (¬ f i = g i) := he
  clear he
  go_enter Try.func21, Try.ntmps21
  go_wp2
  go_loopw [13] (fun ii wr => ∃ k n : Nat, k ≤ i ∧ ii = .int .i64 k ∧ wr = w.drewN n) (fun i _ => n0 - (intOf i).toNat)
  case atStart => exact ⟨0, 0, Nat.zero_le _, rfl, rfl⟩
  case round =>
    obtain ⟨k, n, hk, rfl, rfl⟩ := hrel
    have hlt : k < n0 := by omega
    obtain ⟨b, o, rfl, -, g1⟩ := h1 k hlt
    obtain ⟨b', o', rfl, -, g2⟩ := h2 k hlt
    clear h1 h2
    by_cases hf : f k = g k
    · have hne : k ≠ i := fun e => HE.out (e ▸ hf)
      rw [← hf] at g2
      clear hf
      go_wp2
      go_quiet (fail)
      go_wp2
      go_roundw
      case rel => exact ⟨k + 1, _, by omega, by go_num, rfl⟩
      case measure => simp [intOf]; omega
    · have hb : (f k != g k) = true := by simpa using hf
      clear hf
      go_wp2
      go_quiet (fail)
      go_wp2
      go_ret
      exact ⟨rfl, _, by simp only [World.drewN_drewN]; rfl⟩
set_option maxHeartbeats 400000 in
theorem sameBools_same (a1 a2 : Option Addr) (c1 c2 : Nat) (n0 : Nat) (f : Nat → Bool) {Y Z : Nat → Prop} (w : World) (h1 : BoolsAt Y w a1 n0 f) (h2 : BoolsAt Z w a2 n0 f) :
    Calls Try.prog 83 #[.slice a1 n0 c1, .slice a2 n0 c2] w fun e w' => e = .returned (.bool true) ∧ ∃ n, w' = w.drewN n := by
  obtain ⟨hl, h1⟩ := h1
  obtain ⟨-, h2⟩ := h2
  go_enter Try.func83, Try.ntmps83
  go_wp2
  go_loopw [13] (fun i wr => ∃ k n : Nat, k ≤ n0 ∧ i = .int .i64 k ∧ wr = w.drewN n) (fun i _ => n0 - (intOf i).toNat)
  case atStart => exact ⟨0, 0, Nat.zero_le _, rfl, rfl⟩
  case round =>
    obtain ⟨k, n, hk, rfl, rfl⟩ := hrel
    by_cases hlt : k < n0
    · obtain ⟨b, o, rfl, -, g1⟩ := h1 k hlt
      obtain ⟨b', o', rfl, -, g2⟩ := h2 k hlt
      clear h1 h2
      go_wp2
      go_quiet (fail)
      go_wp2
      go_roundw
      case rel => exact ⟨k + 1, _, by omega, by go_num, rfl⟩
      case measure => simp [intOf]; omega
    · go_wp2
      go_ret
      exact ⟨rfl, n, rfl⟩
set_option maxHeartbeats 800000 in
theorem sameLines_same (a1 a2 : Option Addr) (c1 c2 : Nat) (n0 : Nat) (len : Nat → Nat) (f : Nat → Nat → Int) {Y Z : Nat → Prop} (w : World) (h1 : LinesAt Y w a1 n0 len f) (h2 : LinesAt Z w a2 n0 len f) :
    Calls Try.prog 82 #[.slice a1 n0 c1, .slice a2 n0 c2] w fun e w' => e = .returned (.bool true) ∧ Blw w w' := by
  obtain ⟨hl, h1⟩ := h1
  obtain ⟨-, h2⟩ := h2
  go_enter Try.func82, Try.ntmps82
  go_wp2
  go_loopw [13] (fun i wr => ∃ k : Nat, k ≤ n0 ∧ i = .int .i64 k ∧ Blw w wr) (fun i _ => n0 - (intOf i).toNat)
  case atStart => exact ⟨0, Nat.zero_le _, rfl, Blw.refl _⟩
  case round =>
    obtain ⟨k, hk, rfl, hb⟩ := hrel
    by_cases hlt : k < n0
    · obtain ⟨b, o, e, ce, rfl, -, g1, k1⟩ := h1 k hlt
      obtain ⟨b', o', e', ce', rfl, -, g2, k2⟩ := h2 k hlt
      replace g1 := hb.cell g1
      replace g2 := hb.cell g2
      replace k1 := k1.blw hb
      replace k2 := k2.blw hb
      clear h1 h2
      generalize len k = lk at *
      go_wp2
      go_region_with (go_at_call 21; refine (sameInts_yes _ _ _ _ lk (f k) (f k) _ (k1.blw (Blw.refl _).drew) (k2.blw (Blw.refl _).drew) (fun _ _ => rfl)).mono ?_; rintro e w' ⟨rfl, nq, rfl⟩)
      all_goals go_wp2
      all_goals go_roundw
      all_goals first | exact ⟨k + 1, by omega, by go_num, hb.trans (by repeat (first | exact Blw.refl _ | apply Blw.drewN | apply Blw.drew))⟩ | (simp [intOf]; omega)
    · go_wp2
      go_ret
      exact ⟨rfl, hb⟩
set_option maxHeartbeats 800000 in
theorem sameMemory_same (m m' : MV) (M : MD) {Y Z : Nat → Prop} (w : World) (h1 : MemAt Y w m M) (h2 : MemAt Z w m' M) :
    Calls Try.prog 17 #[m.val M, m'.val M] w fun e w' => e = .returned (.bool true) ∧ Blw w w' := by
  obtain ⟨a1, a2, a3, c1, c2, c3⟩ := m
  obtain ⟨b1, b2, b3, d1, d2, d3⟩ := m'
  obtain ⟨n1, n2, n3, l1, l2, v1, v2, dd⟩ := M
  obtain ⟨s1, s2, s3⟩ := h1
  obtain ⟨t1, t2, t3⟩ := h2
  simp only [MV.val] at *
  go_enter Try.func17, Try.ntmps17
  go_wp2_with fail
  have hb0 : Blw w ((w.alloc (.cells #[.slice a1 n1 c1, .slice a2 n2 c2, .slice a3 n3 c3] 26)).alloc (.cells #[.slice b1 n1 d1, .slice b2 n2 d2, .slice b3 n3 d3] 26)) := ((Blw.refl _).alloc _).alloc _
  refine (sameLines_same _ _ _ _ n1 l1 v1 _ (s1.blw hb0) (t1.blw hb0)).mono ?_
  rintro e w1 ⟨rfl, hb1⟩
  have p1 : w1.cell? ⟨w.heap.size, 1, none⟩ = some (.slice a2 n2 c2) := hb1.cell (by go_cell)
  have p2 : w1.cell? ⟨w.heap.size, 2, none⟩ = some (.slice a3 n3 c3) := hb1.cell (by go_cell)
  have q1 : w1.cell? ⟨w.heap.size + 1, 1, none⟩ = some (.slice b2 n2 d2) := hb1.cell (by go_cell)
  have q2 : w1.cell? ⟨w.heap.size + 1, 2, none⟩ = some (.slice b3 n3 d3) := hb1.cell (by go_cell)
  have hB1 : Blw w w1 := hb0.trans hb1
  clear hb0 hb1
  go_wp2_with fail
  refine (sameLines_same _ _ _ _ n2 l2 v2 _ (s2.blw hB1) (t2.blw hB1)).mono ?_
  rintro e w2 ⟨rfl, hb2⟩
  replace p2 := hb2.cell p2
  replace q2 := hb2.cell q2
  have hB2 : Blw w w2 := hB1.trans hb2
  clear p1 q1 hB1 hb2
  go_wp2_with fail
  refine (sameBools_same _ _ _ _ n3 dd _ (s3.blw hB2) (t3.blw hB2)).mono ?_
  rintro e w3 ⟨rfl, n, rfl⟩
  go_wp2
  go_ret
  exact ⟨rfl, hB2.drewN _⟩
end Go.Proofs.Ytnbcjdoohmjghaa
/- 'spec.NewestSlot', and the law. -/
namespace Go.Proofs.Ytnbcjdoohmjghaa
open Go.RowKit
set_option linter.unusedSimpArgs false
set_option linter.unusedVariables false
set_option maxRecDepth 10000 in
set_option maxHeartbeats 3200000 in
theorem specNewest_any (m : MV) (M : MD) (Y : Nat → Prop) (w : World) (h : MemAt Y w m M) :
    Calls Try.prog 44 #[m.val M] w fun r w' => ∃ e a b ok, r = .returned (.tuple #[slotV e a b, .bool ok]) ∧ nsOut M e a b ok ∧ Blw w w' := by
  go_enter Try.func44, Try.ntmps44
  go_wp2_with fail
  have hb0 : Blw w ((w.alloc (.cells #[.slice m.a1 M.n1 m.c1, .slice m.a2 M.n2 m.c2, .slice m.a3 M.n3 m.c3] 26)).alloc (.cells #[.int .i64 0, .int .i64 0, .int .i64 0] 56)) := ((Blw.refl _).alloc _).alloc _
  have rA := (box3 w (.slice m.a1 M.n1 m.c1) (.slice m.a2 M.n2 m.c2) (.slice m.a3 M.n3 m.c3) 26).blw ((Blw.refl _).alloc (.cells #[.int .i64 0, .int .i64 0, .int .i64 0] 56))
  have rR := box3 (w.alloc (.cells #[.slice m.a1 M.n1 m.c1, .slice m.a2 M.n2 m.c2, .slice m.a3 M.n3 m.c3] 26)) (.int .i64 0) (.int .i64 0) (.int .i64 0) 56
  rw [World.size_alloc] at rR
  refine (goodS_any m M Y _ (h.blw hb0)).mono ?_
  rintro r w0 ⟨b, rfl, hgd, hb1⟩
  replace rA := rA.blw hb1
  replace rR := rR.blw hb1
  replace hb1 := hb0.trans hb1
  replace h := h.blw hb1
  clear hb0
  have HG : Hid (b = true ↔ M.Good) := hgd
  clear hgd
  cases b
  · have NG : Hid (¬ M.Good) := fun g => absurd (HG.out.2 g) (by decide)
    obtain ⟨x0, x1, x2⟩ := get3 rR
    have f0 := rR.frozen 0
    have f1 := rR.frozen 1
    have f2 := rR.frozen 2
    clear HG rA h rR
    go_wp2
    exact bodyPost_ret (v := .tuple #[slotV 0 0 0, .bool false]) (by simp [results, Try.results44, go_sem, x0, x1, x2]) rfl ⟨0, 0, 0, false, rfl, ⟨0, _, false, Or.inr ⟨NG.out, rfl, rfl, rfl⟩, rfl, by decide⟩, ((hb1.setCell (Nat.le_succ _) _).setCell (Nat.le_succ _) _).setCell (Nat.le_succ _) _⟩
  · have GD : Hid M.Good := HG.out.1 rfl
    have rlt := rR.lt
    have hA0 : Blw w0 (w0.alloc (.cells #[.int .i64 0, .int .i64 0, .int .i64 0] 56)) := (Blw.refl _).alloc _
    have r6 := box3 w0 (.int .i64 0) (.int .i64 0) (.int .i64 0) 56
    obtain ⟨p0, p1, p2⟩ := get3 (rA.blw hA0)
    clear HG
    go_wp2_with fail
    refine (l2Read_any m M Y _ GD.out (h.blw hA0)).mono ?_
    rintro r w2 ⟨ao, cap, rfl, own, hb2⟩
    have zA := hA0.size
    have sz0 : (w0.alloc (.cells #[.int .i64 0, .int .i64 0, .int .i64 0] 56)).heap.size = w0.heap.size + 1 := by simp
    have HO : Hid (rsOut M (rdL M.v2 2).length (lf (rdL M.v2 2)) true) := Or.inl ⟨GD.out, rfl, rfl, rfl⟩
    have zz := hb1.size
    have hn2 := own.1
    have HS : Hid (SlotsOwn (fun b => w0.heap.size + 1 ≤ b) w2 ao (rdL M.v2 2).length (lf (rdL M.v2 2)) ∧ sbox w2 (w.heap.size + 1) (0, 0, 0) ∧ sbox w2 w0.heap.size (0, 0, 0) ∧ Blw w w2) := And.intro (own.mono (fun b hb => by have := hb.1; omega)) (And.intro (rR.blw (hA0.trans hb2)) (And.intro (r6.blw hb2) (hb1.trans (hA0.trans hb2))))
    clear own hb2 hA0 r6 rA rR hb1 h p0 p1 p2
    generalize (rdL M.v2 2).length = n at *
    generalize lf (rdL M.v2 2) = f at *
    generalize w0.heap.size = z at *
    go_wp2_with fail
    go_loopw [14] (fun i wr => ∃ k : Nat, k ≤ n ∧ i = .int .i64 k ∧ sbox wr z (nw f k) ∧ Mod (fun x => x = z) w2 wr) (fun i _ => n - (intOf i).toNat)
    case atStart => exact ⟨0, Nat.zero_le _, rfl, HS.out.2.2.1, Mod.refl _ _⟩
    case round =>
      obtain ⟨k, hk, rfl, r6, hm⟩ := hrel
      by_cases hlt : k < n
      · have hlt' : (k : Int) < n := by omega
        obtain ⟨b, hx, rfl, rr⟩ := (HS.out.1.mod hm (fun b hb => by omega)).2 (by omega)
        obtain ⟨p0, p1, p2⟩ := slot_get rr hlt
        have QA := fun o => get3 (r6.blw ((Blw.refl wr).alloc o))
        have f0 := fun o => (r6.blw ((Blw.refl wr).alloc o)).frozen 0
        have f1 := fun o => (r6.blw ((Blw.refl wr).alloc o)).frozen 1
        have f2 := fun o => (r6.blw ((Blw.refl wr).alloc o)).frozen 2
        have hmA : Mod (fun x => x = z) w2 (wr.alloc (.cells #[.int .i64 (f k).1, .int .i64 (f k).2.1, .int .i64 (f k).2.2] 56)) := hm.trans (((Blw.refl wr).alloc _).mod _)
        have r6A := r6.blw ((Blw.refl wr).alloc (.cells #[.int .i64 (f k).1, .int .i64 (f k).2.1, .int .i64 (f k).2.2] 56))
        by_cases hg : (nw f k).1 < (f k).1
        · have I : Hid (sbox _ z (nw f (k + 1)) ∧ Mod (fun x => x = z) w2 _) := And.intro (by rw [nw_yes hg]; exact box_put r6A (.int .i64 (f k).1) (.int .i64 (f k).2.1) (.int .i64 (f k).2.2)) (hmA.trans (mod_set3 _ z (.int .i64 (f k).1) (.int .i64 (f k).2.1) (.int .i64 (f k).2.2)))
          have d1 : decide ((f k).1 > (nw f k).1) = true := by simp; omega
          clear r6 hm rr hmA r6A
          go_wp2
          go_roundw
          case rel => exact ⟨k + 1, by omega, by go_num, I.out⟩
          case measure => simp [intOf]; omega
        · have I : Hid (sbox _ z (nw f (k + 1)) ∧ Mod (fun x => x = z) w2 _) := And.intro (by rw [nw_no hg]; exact r6A) hmA
          have d1 : decide ((f k).1 > (nw f k).1) = false := by simp; omega
          clear r6 hm rr hmA r6A
          go_wp2
          go_roundw
          case rel => exact ⟨k + 1, by omega, by go_num, I.out⟩
          case measure => simp [intOf]; omega
      · obtain rfl : k = n := by omega
        have rR := HS.out.2.1.mod hm (by omega)
        have hbW : Blw w wr := Mod.blw HS.out.2.2.2 hm (fun i hi => by omega)
        obtain ⟨x0, x1, x2⟩ := get3 rR
        have f0 := rR.frozen 0
        have f1 := rR.frozen 1
        have f2 := rR.frozen 2
        obtain ⟨⟨e, a, b⟩, het⟩ : ∃ t, nw f k = t := ⟨_, rfl⟩
        rw [het] at r6
        obtain ⟨Z0, Z1, Z2⟩ := box3_mod (R := w.heap.size + 1) r6 (by omega)
        clear r6 hm HS rR
        go_wp2_with fail
        go_region_held3 (fun w' => Mod (fun x => x = w.heap.size + 1) wr w') ((first | exact (Mod.refl _ _).drew | assumption | exact Mod.trans (by assumption) (mod_set3 _ _ _ _ _))) (fail)
        all_goals go_wp2
        all_goals exact bodyPost_ret (v := .tuple #[slotV e a b, .bool (decide (0 < e))]) (by simp [results, Try.results44, go_sem, x0, x1, x2]) rfl ⟨e, a, b, decide (0 < e), rfl, ⟨k, f, true, HO.out, het.symm, rfl⟩, Mod.blw hbW (by assumption) (fun i hi => by omega)⟩
end Go.Proofs.Ytnbcjdoohmjghaa
/- A commit, and what a failure leaves of a write. -/
namespace Go.Proofs.Ytnbcjdoohmjghaa
open Go.RowKit
set_option linter.unusedVariables false
theorem cs_good {M M' : MD} {e a b : Int} {ok : Bool} (g : M.Good) (hs : slotOK e a b) (h : csOut M e a b M' ok) : ok = true ∧ M'.Good ∧ (∃ s c d, M' = MD.full s c d) ∧
    ∃ q : Nat, (q : Int) = e % 2 ∧ q < 2 ∧ (∀ j, j < 4 → M'.v2 q j = slotF e a b j) ∧ (∀ k, k ≠ q → ∀ j, M'.v2 k j = M.v2 k j) ∧ M'.d q = false ∧ ∀ k, k ≠ q → M'.d k = M.d k := by
  obtain ⟨M1, o1, h1, h2⟩ := h
  obtain ⟨rfl, g1, hf, e1, q, hq, hq2, hl, ho, hd⟩ := ws_good g hs h1
  rcases h2 with ⟨_, h2⟩ | ⟨h2, _⟩
  · rcases h2 with ⟨_, n, hn, hn2, rfl, rfl⟩ | ⟨ng, _⟩
    · obtain rfl : n = q := by omega
      have P := good_parts g1
      refine ⟨rfl, good_full.2 (fun k hk => ⟨fun j hj => ?_, (P k hk).2.1, fun hdk j hj => ?_⟩), ⟨_, _, _, rfl⟩, n, hq, hq2, hl, ho, by simp [MD.full, flD], fun k hk => by simp [MD.full, flD, hk, hd k hk]⟩
      · by_cases hkn : k = n
        · subst hkn; simp only [flS, if_true]; exact (P k hk).2.1 j hj
        · simp only [flS, hkn, if_false]; exact (P k hk).1 j hj
      · by_cases hkn : k = n
        · subst hkn; simp only [flS, if_true]
        · simp only [flS, hkn, if_false]
          simp only [flD, hkn, if_false] at hdk
          exact (P k hk).2.2 hdk j hj
    · exact absurd ⟨g1, by omega⟩ ng
  · cases h2
theorem new_of {M M' : MD} {e a b e' a' b' : Int} (hs : slotOK e' a' b') (he : e' = e + 1) (hn : (e, a, b) = nwC M.v2) {c : Nat → Nat → Int} {q : Nat} (hq : (q : Int) = e' % 2) (hq2 : q < 2) (hl : ∀ j, j < 4 → c q j = slotF e' a' b' j) (ho : ∀ k, k < 2 → k ≠ q → ∀ j, j < 4 → c k j = M.v2 k j) : nwC c = (e', a', b') := by
  obtain ⟨hr, h0, h1, h2⟩ := rec_slotF hs hq hl
  rw [nwC_new hq2 hr, h0, h1, h2]
  intro p hp hpq hrp
  rw [h0]
  have hr' := (recI_congr (ho p hp hpq)).1 hrp
  have := nwC_max hp hr'
  rw [← hn] at this
  rw [ho p hp hpq 0 (by omega)]
  have : (e, a, b).1 = e := rfl
  omega
theorem ns_is {M : MD} {e a b x y z : Int} {ok : Bool} (g : M.Good) (hn : nwC M.v2 = (e, a, b)) (he : 0 < e) (h : nsOut M x y z ok) : x = e ∧ y = a ∧ z = b ∧ ok = true := by
  obtain ⟨h1, h2⟩ := nsOut_nw g h
  rw [hn] at h1
  simp only [Prod.mk.injEq] at h1
  obtain ⟨rfl, rfl, rfl⟩ := h1
  exact ⟨rfl, rfl, rfl, by rw [h2]; simp [he]⟩
theorem two_rise : rising 2 (fun i => ([0, 1] : List Int).getD i 0) := by
  intro i hi
  match i, hi with
  | 0, _ => simp [riseAt]
  | 1, _ => simp [riseAt]
theorem fw_yes {M M' : MD} {n : Nat} {f : Nat → Int} {b : Bool} (g : M.Good) (hr : rising n f) (h : fwOut M n f M' b) : b = true := by
  rcases h with ⟨_, _, _, rfl⟩ | ⟨ng, _⟩
  · rfl
  · exact absurd ⟨g, hr⟩ ng
/-- What the law of slots asks of a write, a commit and a failure. -/
theorem slots_fact {M M10 M14 M16 : MD} {e a b e' a' b' : Int} {b11 b15 b17 : Bool} (h6 : nsOut M e a b true) (h10 : faOut M M10 b11) (hs : slotOK e' a' b') (he : e' = e + 1) (h14 : wsOut M10 e' a' b' M14 b15) (h16 : csOut M10 e' a' b' M16 b17) :
    b15 = true ∧ b17 = true ∧
    (∀ M20 b21, fwOut M14 0 (fun _ => 0) M20 b21 → b21 = true ∧ ∀ x y z ok, nsOut M20 x y z ok → x = e ∧ y = a ∧ z = b ∧ ok = true) ∧
    (∀ M20 b21, fwOut M14 2 (fun i => ([0, 1] : List Int).getD i 0) M20 b21 → b21 = true ∧ ∀ x y z ok, nsOut M20 x y z ok → x = e' ∧ y = a' ∧ z = b' ∧ ok = true) ∧
    (∀ M20 b21, fwOut M16 0 (fun _ => 0) M20 b21 → b21 = true ∧ ∀ x y z ok, nsOut M20 x y z ok → x = e' ∧ y = a' ∧ z = b' ∧ ok = true) := by
  have g := nsOut_good h6
  obtain ⟨hn, h0⟩ := nsOut_nw g h6
  have h0 : 0 < e := by simpa using h0.symm
  have h0' : 0 < e' := by omega
  obtain ⟨rfl, g10, -, F10⟩ := fa_good g h10
  obtain ⟨rfl, g14, -, e14, q, hq, hq2, hl, ho, -⟩ := ws_good g10 hs h14
  obtain ⟨rfl, g16, f16, q', hq', hq2', hl', ho', hd', hd''⟩ := cs_good g10 hs h16
  have n14 : nwC M14.v2 = (e', a', b') := new_of (M := M) (M' := M) hs he hn hq hq2 hl (fun k hk hkq j hj => by rw [ho k hkq j, (F10 k (by omega)).2.2 j hj])
  have n16 : nwC M16.v2 = (e', a', b') := new_of (M := M) (M' := M) hs he hn hq' hq2' hl' (fun k hk hkq j hj => by rw [ho' k hkq j, (F10 k (by omega)).2.2 j hj])
  have d16 : ∀ k, k < 12 → M16.d k = false := fun k hk => by
    by_cases hkq : k = q'
    · rw [hkq]; exact hd'
    · rw [hd'' k hkq]; exact (F10 k hk).1
  refine ⟨rfl, rfl, fun M20 b21 h => ?_, fun M20 b21 h => ?_, fun M20 b21 h => ?_⟩
  · obtain rfl := fw_yes g14 (rising_nil _) h
    obtain ⟨-, g20, -, F⟩ := fw_true h
    refine ⟨rfl, fun x y z ok hns => ns_is g20 ?_ h0 hns⟩
    rw [hn]
    exact nwC_congr fun k hk j hj => by rw [(F k (by omega)).2.2.1 (has_none _ k) j hj, e14, (F10 k (by omega)).2.1 j hj]
  · obtain rfl := fw_yes g14 two_rise h
    obtain ⟨-, g20, -, F⟩ := fw_true h
    refine ⟨rfl, fun x y z ok hns => ns_is g20 ?_ h0' hns⟩
    rw [← n14]
    refine nwC_congr fun k hk j hj => (F k (by omega)).2.1 ⟨k, hk, ?_⟩ j hj
    match k, hk with
    | 0, _ => rfl
    | 1, _ => rfl
  · obtain ⟨rfl, A⟩ := fw_clean g16 f16 d16 h
    obtain ⟨-, g20, -, -⟩ := fw_true h
    refine ⟨rfl, fun x y z ok hns => ns_is g20 ?_ h0' hns⟩
    rw [← n16]
    exact nwC_congr fun k hk j hj => (A.c k (by omega) j hj).symm
end Go.Proofs.Ytnbcjdoohmjghaa
