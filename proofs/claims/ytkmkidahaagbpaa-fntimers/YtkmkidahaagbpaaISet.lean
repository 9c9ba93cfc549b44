/- SetTimer of the program. -/
import Derived.Test.YtkmkidahaagbpaaNw
import Derived.Test.YtkmkidahaagbpaaTk
import Derived.Test.YtkmkidahaagbpaaHold
import Derived.Test.YtkmkidahaagbpaaGow
namespace Go.Proofs.Ytkmkidahaagbpaa
open Go.RowKit
set_option linter.unusedSimpArgs false
set_option linter.unusedVariables false
/-- What a change of a wheel answers. -/
def pickOut (p : Prop) (X : WD) (D : WD) (b : Bool) : Prop := (p ∧ D = X ∧ b = true) ∨ (¬ p ∧ D = WD.zero ∧ b = false)
theorem pickOut_same {p : Prop} {X D D' : WD} {b b' : Bool} (h : pickOut p X D b) (h' : pickOut p X D' b') : D = D' ∧ b = b' := by
  rcases h with ⟨hp, rfl, rfl⟩ | ⟨hp, rfl, rfl⟩ <;> rcases h' with ⟨hp', rfl, rfl⟩ | ⟨hp', rfl, rfl⟩
  · exact ⟨rfl, rfl⟩
  · exact absurd hp hp'
  · exact absurd hp' hp
  · exact ⟨rfl, rfl⟩
def SetP (D : WD) (id wait : Int) : Prop := GoodD D ∧ 1 ≤ wait ∧ wait ≤ 55 ∧ OkT D.now (rows16 D) (id, D.now + wait)
noncomputable def setOut (D : WD) (id wait : Int) : WD → Bool → Prop := pickOut (SetP D id wait) (wd8 D.now (put D.now (rows16 D) (id, D.now + wait)))
theorem put_len {now : Int} {R : Rws} (h : GoodR now R) (t : Tm) : (allR (put now R t)).length ≤ 21 := by
  have h1 := (put_perm now R t).length_eq
  have h2 := h.len
  simp only [List.length_cons] at h1
  omega
set_option maxRecDepth 10000 in
set_option maxHeartbeats 3200000 in
theorem implSet_any (v : WV) (D : WD) (id wait : Int) (Y : Nat → Prop) (w : World) (h : WAt Y w v D) (hY : ∀ b, Y b → b < w.heap.size) (hwf : D.wf) : Calls Try.prog 25 #[v.val D, .int .i64 id, .int .i64 wait] w (GivesW (setOut D id wait) w) := by
  have hb0 : Blw w (w.alloc (.cells #[.int .i64 D.now, .slice v.a1 D.N.n v.c1, .slice v.a2 D.F.n v.c2] 25)) := (Blw.refl _).alloc _
  have r0 := box3 w (.int .i64 D.now) (.slice v.a1 D.N.n v.c1) (.slice v.a2 D.F.n v.c2) 25
  obtain ⟨Wa, hWa⟩ : ∃ Wa, w.alloc (.cells #[.int .i64 D.now, .slice v.a1 D.N.n v.c1, .slice v.a2 D.F.n v.c2] 25) = Wa := ⟨_, rfl⟩
  rw [hWa] at hb0 r0
  have hsa : Wa.heap.size = w.heap.size + 1 := by rw [← hWa, World.size_alloc]
  have hb1 : Blw Wa (Wa.alloc (.cells #[.int .i64 0, .slice none 0 0, .slice none 0 0] 25)) := (Blw.refl _).alloc _
  have r1 := box3 Wa (.int .i64 0) (.slice none 0 0) (.slice none 0 0) 25
  have ra := r0.blw hb1
  obtain ⟨W0, hW0⟩ : ∃ W0, Wa.alloc (.cells #[.int .i64 0, .slice none 0 0, .slice none 0 0] 25) = W0 := ⟨_, rfl⟩
  rw [hW0] at hb1 r1 ra
  have HHO : Hid (Calls Try.prog 48 #[v.val D] W0 (HoldPost W0 D)) :=
    hold_any v D Y _ ((h.blw hb0).blw hb1) (fun b hb => by have := hY b hb; have := (hb0.trans hb1).size; omega) hwf
  have HB : Hid (Blw w W0 ∧ w.heap.size ≤ Wa.heap.size ∧ Wa.heap.size < W0.heap.size) := ⟨hb0.trans hb1, by omega, r1.lt⟩
  have HR1 : Hid (Row W0 Wa.heap.size 3 (t3 (.int .i64 0) (.slice none 0 0) (.slice none 0 0))) := r1
  clear h hb0 hb1 hsa
  by_cases hg : GoodD D
  · by_cases hw1 : wait < 1
    have hd1 : decide (wait < 1) = true := decide_eq_true hw1
    have G : Hid (GoodD D ∧ wait < 1) := ⟨hg, hw1⟩
    clear hg hw1
    go_enter Try.func25, Try.ntmps25
    go_upto_region 1 with fail
    try simp only [hWa, hW0]
    obtain ⟨c0, c1, c2⟩ := get3 ra
    clear hWa hW0 r0 ra r1
    go_upto_region 2 with (first | (go_at_call 48; refine HHO.out.mono ?_; rintro e w1 ⟨now, R, P, C, b, rfl, hE1⟩) | (refine alloc_big rfl 71 rfl 17 hz0 zeroH ?_; intro w2 RZ2 hb2 hz2) | (refine store_big rfl 71 _ _ rfl _ 17 (hcell now R P C) hz0 rfl rfl wdH RZ2 (fun i _ => hcell_one _ _ _ _ _) ?_; intro wz RZ9 hm9 hs9) | fail)
    obtain ⟨hbo, hbt, hbl⟩ := hE1
    clear c0 c1 c2 HHO
    have hbz : Blw W0 wz := Mod.blw (hbl.trans hb2) hm9 (fun i e => by have := hbl.size; omega)
    obtain rfl : b = true := hbo.2 G.out.1
    obtain ⟨e1, e2, hR⟩ := hbt rfl
    subst e1 e2
    have HWz : Hid (HW W0.heap.size w1.heap.size D.now (rows16 D) P C wz) := ((hR.blw hb2).mod hm9 (fun k b hk e hh => by have h5 := hR.lt hk e; omega)).box (fun k b hk e => by have h5 := hR.lt hk e; omega) RZ9
    have HBz : Hid (Blw w wz ∧ W0.heap.size ≤ wz.heap.size) := ⟨HB.out.1.trans hbz, hbz.size⟩
    have HRz : Hid (Row wz Wa.heap.size 3 (t3 (.int .i64 0) (.slice none 0 0) (.slice none 0 0))) := HR1.out.blw hbz
    have HS1 : Hid (W0.heap.size ≤ w1.heap.size) := hbl.size
    clear hR hbo hbt hbl RZ2 hb2 hz2 RZ9 hm9 hs9 hbz
    obtain ⟨q0, q1, q2⟩ := get3 (HRz.out)
    have f0 := (HRz.out).frozen 0
    have f1 := (HRz.out).frozen 1
    have f2 := (HRz.out).frozen 2
    go_wp2_with fail
    have r9 := set3_2 (set3_1 (set3_0 (HRz.out) (.int .i64 0)) (.slice none 0 0)) (.slice none 0 0)
    obtain ⟨u0, u1, u2⟩ := get3 r9
    have mS := set3_mod (X := fun b => b = Wa.heap.size) wz rfl (.int .i64 0) (.slice none 0 0) (.slice none 0 0)
    refine bodyPost_ret (v := .tuple #[.agg #[.int .i64 0, .slice none 0 0, .slice none 0 0], .bool false]) (by rw [results_cell_tmp rfl]; simp [asAddr, Result.andThen, go_sem, u0, u1, u2]) rfl ?_
    have hle := HB.out.2.1
    exact ⟨WV.zero, WD.zero, false, rfl, Or.inr ⟨fun hp => by have h5 := G.out.2; have h6 := hp.2.1; omega, rfl, rfl⟩, small_zero, WOwn.zero _ _, Mod.blw (HBz.out.1) mS (fun i e => by omega)⟩
    · by_cases hw2 : 55 < wait
      have hd1 : decide (wait < 1) = false := decide_eq_false (by omega)
      have hd2 : decide (wait > 55) = true := decide_eq_true hw2
      have G : Hid (GoodD D ∧ 55 < wait) := ⟨hg, hw2⟩
      clear hg hw1 hw2
      go_enter Try.func25, Try.ntmps25
      go_upto_region 1 with fail
      try simp only [hWa, hW0]
      obtain ⟨c0, c1, c2⟩ := get3 ra
      clear hWa hW0 r0 ra r1
      go_upto_region 2 with (first | (go_at_call 48; refine HHO.out.mono ?_; rintro e w1 ⟨now, R, P, C, b, rfl, hE1⟩) | (refine alloc_big rfl 71 rfl 17 hz0 zeroH ?_; intro w2 RZ2 hb2 hz2) | (refine store_big rfl 71 _ _ rfl _ 17 (hcell now R P C) hz0 rfl rfl wdH RZ2 (fun i _ => hcell_one _ _ _ _ _) ?_; intro wz RZ9 hm9 hs9) | fail)
      obtain ⟨hbo, hbt, hbl⟩ := hE1
      clear c0 c1 c2 HHO
      have hbz : Blw W0 wz := Mod.blw (hbl.trans hb2) hm9 (fun i e => by have := hbl.size; omega)
      obtain rfl : b = true := hbo.2 G.out.1
      obtain ⟨e1, e2, hR⟩ := hbt rfl
      subst e1 e2
      have HWz : Hid (HW W0.heap.size w1.heap.size D.now (rows16 D) P C wz) := ((hR.blw hb2).mod hm9 (fun k b hk e hh => by have h5 := hR.lt hk e; omega)).box (fun k b hk e => by have h5 := hR.lt hk e; omega) RZ9
      have HBz : Hid (Blw w wz ∧ W0.heap.size ≤ wz.heap.size) := ⟨HB.out.1.trans hbz, hbz.size⟩
      have HRz : Hid (Row wz Wa.heap.size 3 (t3 (.int .i64 0) (.slice none 0 0) (.slice none 0 0))) := HR1.out.blw hbz
      have HS1 : Hid (W0.heap.size ≤ w1.heap.size) := hbl.size
      clear hR hbo hbt hbl RZ2 hb2 hz2 RZ9 hm9 hs9 hbz
      obtain ⟨q0, q1, q2⟩ := get3 (HRz.out)
      have f0 := (HRz.out).frozen 0
      have f1 := (HRz.out).frozen 1
      have f2 := (HRz.out).frozen 2
      go_wp2_with fail
      have r9 := set3_2 (set3_1 (set3_0 (HRz.out) (.int .i64 0)) (.slice none 0 0)) (.slice none 0 0)
      obtain ⟨u0, u1, u2⟩ := get3 r9
      have mS := set3_mod (X := fun b => b = Wa.heap.size) wz rfl (.int .i64 0) (.slice none 0 0) (.slice none 0 0)
      refine bodyPost_ret (v := .tuple #[.agg #[.int .i64 0, .slice none 0 0, .slice none 0 0], .bool false]) (by rw [results_cell_tmp rfl]; simp [asAddr, Result.andThen, go_sem, u0, u1, u2]) rfl ?_
      have hle := HB.out.2.1
      exact ⟨WV.zero, WD.zero, false, rfl, Or.inr ⟨fun hp => by have h5 := G.out.2; have h6 := hp.2.2.1; omega, rfl, rfl⟩, small_zero, WOwn.zero _ _, Mod.blw (HBz.out.1) mS (fun i e => by omega)⟩
      · have hd1 : decide (wait < 1) = false := decide_eq_false (by omega)
        have hd2 : decide (wait > 55) = false := decide_eq_false (by omega)
        have hn := hg.now
        have hwr : IntKind.i64.wrap (D.now + wait) = D.now + wait := by rw [IntKind.wrap_i64]; omega
        have G : Hid (GoodD D ∧ 1 ≤ wait ∧ wait ≤ 55) := ⟨hg, by omega, by omega⟩
        clear hg hw1 hw2 hn
        go_enter Try.func25, Try.ntmps25
        go_upto_region 1 with fail
        try simp only [hWa, hW0]
        obtain ⟨c0, c1, c2⟩ := get3 ra
        clear hWa hW0 r0 ra r1
        go_upto_region 2 with (first | (go_at_call 48; refine HHO.out.mono ?_; rintro e w1 ⟨now, R, P, C, b, rfl, hE1⟩) | (refine alloc_big rfl 71 rfl 17 hz0 zeroH ?_; intro w2 RZ2 hb2 hz2) | (refine store_big rfl 71 _ _ rfl _ 17 (hcell now R P C) hz0 rfl rfl wdH RZ2 (fun i _ => hcell_one _ _ _ _ _) ?_; intro wz RZ9 hm9 hs9) | fail)
        obtain ⟨hbo, hbt, hbl⟩ := hE1
        clear c0 c1 c2 HHO
        have hbz : Blw W0 wz := Mod.blw (hbl.trans hb2) hm9 (fun i e => by have := hbl.size; omega)
        obtain rfl : b = true := hbo.2 G.out.1
        obtain ⟨e1, e2, hR⟩ := hbt rfl
        subst e1 e2
        have HWz : Hid (HW W0.heap.size w1.heap.size D.now (rows16 D) P C wz) := ((hR.blw hb2).mod hm9 (fun k b hk e hh => by have h5 := hR.lt hk e; omega)).box (fun k b hk e => by have h5 := hR.lt hk e; omega) RZ9
        have HBz : Hid (Blw w wz ∧ W0.heap.size ≤ wz.heap.size) := ⟨HB.out.1.trans hbz, hbz.size⟩
        have HRz : Hid (Row wz Wa.heap.size 3 (t3 (.int .i64 0) (.slice none 0 0) (.slice none 0 0))) := HR1.out.blw hbz
        have HS1 : Hid (W0.heap.size ≤ w1.heap.size) := hbl.size
        clear hR hbo hbt hbl RZ2 hb2 hz2 RZ9 hm9 hs9 hbz
        have hnow := HWz.out.now0
        have HTK : Hid (Calls Try.prog 60 #[.pointer (some ⟨w1.heap.size, 0, none⟩), .agg #[.int .i64 id, .int .i64 (D.now + wait)]] wz fun e w' =>
              ((OkT D.now (rows16 D) (id, D.now + wait) ∧ e = .returned (.bool true) ∧ ∃ P' C', HW W0.heap.size w1.heap.size D.now (put D.now (rows16 D) (id, D.now + wait)) P' C' w' ∧ ∀ j b, j < 16 → P' j = some ⟨b, 0, none⟩ → HX w1.heap.size P b ∨ wz.heap.size ≤ b) ∨ (¬ OkT D.now (rows16 D) (id, D.now + wait) ∧ e = .returned (.bool false))) ∧ Mod (HX w1.heap.size P) wz w') :=
          take_any W0.heap.size w1.heap.size D.now (rows16 D) P C (id, D.now + wait) wz HWz.out HBz.out.2 G.out.1.now.1 G.out.1.now.2 G.out.1.g (by have h5 := G.out; have h6 := h5.1.now; show _ ≤ D.now + wait; omega) (by have h5 := G.out; have h6 := h5.1.now; show D.now + wait ≤ _; omega)
        by_cases hk : OkT D.now (rows16 D) (id, D.now + wait)
        · have HK : Hid (OkT D.now (rows16 D) (id, D.now + wait)) := hk
          clear hk
          go_upto_region 4 with (first | (go_at_call 60; first | rw [hwr] | skip; refine HTK.out.mono ?_; rintro e w3 ⟨h3, hm3⟩; obtain ⟨e3, hH3⟩ : e = .returned (.bool true) ∧ Hid (∃ P' C', HW W0.heap.size w1.heap.size D.now (put D.now (rows16 D) (id, D.now + wait)) P' C' w3) := h3.elim (fun q => ⟨q.2.1, let ⟨P', C', q3, _⟩ := q.2.2; ⟨P', C', q3⟩⟩) (fun q => absurd HK.out q.1); subst e3; clear h3 hnow) | fail)
          obtain ⟨P', C', hH⟩ := hH3.out
          have HH3 : Hid (HW W0.heap.size w1.heap.size D.now (put D.now (rows16 D) (id, D.now + wait)) P' C' w3) := hH
          have hz1 : ∀ b, HX w1.heap.size P b → W0.heap.size ≤ b ∧ b ≠ Wa.heap.size := fun b hb => by
            have h5 := HB.out.2.2
            rcases HWz.out.hx hb with h6 | h6
            · have h7 := HWz.out.box.lt; have h8 := HS1.out; omega
            · omega
          have BW2 : Hid (Blw w w3) := Mod.blw HBz.out.1 hm3 (fun i e => by have h5 := (hz1 i e).1; have h6 := HB.out.1.size; omega)
          have HR3 : Hid (Row w3 Wa.heap.size 3 (t3 (.int .i64 0) (.slice none 0 0) (.slice none 0 0))) := HRz.out.mod hm3 (fun e => (hz1 _ e).2 rfl)
          have HS3 : Hid (W0.heap.size ≤ w3.heap.size) := by have h5 := HBz.out.2; have h6 := hm3.size; exact Nat.le_trans h5 h6
          clear hH hH3 hz1 hm3
          have HGO : Hid (Calls Try.prog 51 #[.pointer (some ⟨w1.heap.size, 0, none⟩)] w3 fun e w' => ∃ v : WV, e = .returned (v.val (wd8 D.now (put D.now (rows16 D) (id, D.now + wait)))) ∧ w'.cell? ⟨Wa.heap.size, 0, none⟩ = some (.int .i64 0) ∧ w'.cell? ⟨Wa.heap.size, 1, none⟩ = some (.slice none 0 0) ∧ w'.cell? ⟨Wa.heap.size, 2, none⟩ = some (.slice none 0 0) ∧ w'.frozen? ⟨Wa.heap.size, 0, none⟩ = false ∧ w'.frozen? ⟨Wa.heap.size, 1, none⟩ = false ∧ w'.frozen? ⟨Wa.heap.size, 2, none⟩ = false ∧ Hid (WOwn (fun x => W0.heap.size ≤ x ∧ x < w'.heap.size) w' v (wd8 D.now (put D.now (rows16 D) (id, D.now + wait))) ∧ Blw w3 w' ∧ Row w' Wa.heap.size 3 (t3 (.int .i64 0) (.slice none 0 0) (.slice none 0 0)))) := by
            refine (giveOut_any W0.heap.size w1.heap.size D.now (put D.now (rows16 D) (id, D.now + wait)) P' C' w3 (HH3.out) (by have h5 := (HS3.out); omega) (fun k hk => by have h5 := put_len G.out.1.g (id, D.now + wait); have h6 := len_row (S := put D.now (rows16 D) (id, D.now + wait)) hk; omega)).mono ?_
            rintro e w' ⟨v, rfl, hE⟩
            have r9 := (HR3.out).blw hE.out.2
            obtain ⟨t0, t1, t2⟩ := get3 r9
            exact ⟨v, rfl, t0, t1, t2, r9.frozen 0, r9.frozen 1, r9.frozen 2, hE.out.1, hE.out.2, r9⟩
          go_wp2_with (first | (go_at_call 51; refine HGO.out.mono ?_; rintro e W2 ⟨v, rfl, q0, q1, q2, f0, f1, f2, hE⟩) | fail)
          have r9 := set3_2 (set3_1 (set3_0 hE.out.2.2 (.int .i64 D.now)) (.slice v.a1 8 v.c1)) (.slice v.a2 8 v.c2)
          obtain ⟨u0, u1, u2⟩ := get3 r9
          have mS := set3_mod (X := fun b => b = Wa.heap.size) W2 rfl (.int .i64 D.now) (.slice v.a1 8 v.c1) (.slice v.a2 8 v.c2)
          refine bodyPost_ret (v := .tuple #[.agg #[.int .i64 D.now, .slice v.a1 8 v.c1, .slice v.a2 8 v.c2], .bool true]) (by rw [results_cell_tmp rfl]; simp [asAddr, Result.andThen, go_sem, u0, u1, u2]) rfl ?_
          have hsB := HB.out.2.2
          have hle := HB.out.2.1
          have hm5 := mS.size
          exact ⟨v, wd8 D.now (put D.now (rows16 D) (id, D.now + wait)), true, rfl, Or.inl ⟨⟨G.out.1, G.out.2.1, G.out.2.2, HK.out⟩, rfl, rfl⟩, small8 (by have h5 := put_len G.out.1.g (id, D.now + wait); omega), (hE.out.1.mod mS (fun b hb e => by omega)).mono (fun b hb => ⟨by omega, by omega⟩), Mod.blw ((BW2.out).trans hE.out.2.1) mS (fun i e => by omega)⟩
        · have HK : Hid (¬ OkT D.now (rows16 D) (id, D.now + wait)) := hk
          clear hk
          go_upto_region 3 with (first | (go_at_call 60; first | rw [hwr] | skip; refine HTK.out.mono ?_; rintro e w3 ⟨h3, hm3⟩; obtain rfl : e = .returned (.bool false) := h3.elim (fun q => absurd q.1 HK.out) (fun q => q.2); clear h3 hnow) | fail)
          have hz1 : ∀ b, HX w1.heap.size P b → W0.heap.size ≤ b ∧ b ≠ Wa.heap.size := fun b hb => by
            have h5 := HB.out.2.2
            rcases HWz.out.hx hb with h6 | h6
            · have h8 := HS1.out; omega
            · omega
          have BW2 : Hid (Blw w w3) := Mod.blw HBz.out.1 hm3 (fun i e => by have h5 := (hz1 i e).1; have h6 := HB.out.1.size; omega)
          have HR3 : Hid (Row w3 Wa.heap.size 3 (t3 (.int .i64 0) (.slice none 0 0) (.slice none 0 0))) := HRz.out.mod hm3 (fun e => (hz1 _ e).2 rfl)
          clear hz1 hm3
          obtain ⟨q0, q1, q2⟩ := get3 (HR3.out)
          have f0 := (HR3.out).frozen 0
          have f1 := (HR3.out).frozen 1
          have f2 := (HR3.out).frozen 2
          go_wp2_with fail
          have r9 := set3_2 (set3_1 (set3_0 (HR3.out) (.int .i64 0)) (.slice none 0 0)) (.slice none 0 0)
          obtain ⟨u0, u1, u2⟩ := get3 r9
          have mS := set3_mod (X := fun b => b = Wa.heap.size) w3 rfl (.int .i64 0) (.slice none 0 0) (.slice none 0 0)
          refine bodyPost_ret (v := .tuple #[.agg #[.int .i64 0, .slice none 0 0, .slice none 0 0], .bool false]) (by rw [results_cell_tmp rfl]; simp [asAddr, Result.andThen, go_sem, u0, u1, u2]) rfl ?_
          have hle := HB.out.2.1
          exact ⟨WV.zero, WD.zero, false, rfl, Or.inr ⟨fun hp => HK.out hp.2.2.2, rfl, rfl⟩, small_zero, WOwn.zero _ _, Mod.blw (BW2.out) mS (fun i e => by omega)⟩
  · have NG : Hid (¬ GoodD D) := hg
    clear hg
    go_enter Try.func25, Try.ntmps25
    go_upto_region 1 with fail
    try simp only [hWa, hW0]
    obtain ⟨c0, c1, c2⟩ := get3 ra
    clear hWa hW0 r0 ra r1
    go_upto_region 2 with (first | (go_at_call 48; refine HHO.out.mono ?_; rintro e w1 ⟨now, R, P, C, b, rfl, hE1⟩) | (refine alloc_big rfl 71 rfl 17 hz0 zeroH ?_; intro w2 RZ2 hb2 hz2) | (refine store_big rfl 71 _ _ rfl _ 17 (hcell now R P C) hz0 rfl rfl wdH RZ2 (fun i _ => hcell_one _ _ _ _ _) ?_; intro wz RZ9 hm9 hs9) | fail)
    obtain ⟨hbo, hbt, hbl⟩ := hE1
    clear c0 c1 c2 HHO
    have hbz : Blw W0 wz := Mod.blw (hbl.trans hb2) hm9 (fun i e => by have := hbl.size; omega)
    obtain rfl : b = false := by cases b; rfl; exact absurd (hbo.1 rfl) NG.out
    have HBz : Hid (Blw w wz ∧ W0.heap.size ≤ wz.heap.size) := ⟨HB.out.1.trans hbz, hbz.size⟩
    have HRz : Hid (Row wz Wa.heap.size 3 (t3 (.int .i64 0) (.slice none 0 0) (.slice none 0 0))) := HR1.out.blw hbz
    clear hbo hbt hbl RZ2 hb2 hz2 RZ9 hm9 hs9 hbz
    obtain ⟨q0, q1, q2⟩ := get3 (HRz.out)
    have f0 := (HRz.out).frozen 0
    have f1 := (HRz.out).frozen 1
    have f2 := (HRz.out).frozen 2
    go_wp2_with fail
    have r9 := set3_2 (set3_1 (set3_0 (HRz.out) (.int .i64 0)) (.slice none 0 0)) (.slice none 0 0)
    obtain ⟨u0, u1, u2⟩ := get3 r9
    have mS := set3_mod (X := fun b => b = Wa.heap.size) wz rfl (.int .i64 0) (.slice none 0 0) (.slice none 0 0)
    refine bodyPost_ret (v := .tuple #[.agg #[.int .i64 0, .slice none 0 0, .slice none 0 0], .bool false]) (by rw [results_cell_tmp rfl]; simp [asAddr, Result.andThen, go_sem, u0, u1, u2]) rfl ?_
    have hle := HB.out.2.1
    exact ⟨WV.zero, WD.zero, false, rfl, Or.inr ⟨fun hp => NG.out hp.1, rfl, rfl⟩, small_zero, WOwn.zero _ _, Mod.blw (HBz.out.1) mS (fun i e => by omega)⟩
end Go.Proofs.Ytkmkidahaagbpaa
