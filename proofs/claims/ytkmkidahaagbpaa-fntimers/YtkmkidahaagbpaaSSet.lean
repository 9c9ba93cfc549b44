/- SetTimer of the model. -/
import Derived.Test.YtkmkidahaagbpaaISet
import Derived.Test.YtkmkidahaagbpaaHas
import Derived.Test.YtkmkidahaagbpaaPlc
namespace Go.Proofs.Ytkmkidahaagbpaa
open Go.RowKit
set_option linter.unusedSimpArgs false
set_option linter.unusedVariables false
set_option maxRecDepth 10000 in
set_option maxHeartbeats 3200000 in
theorem specSet_any (v : WV) (D : WD) (id wait : Int) (Y : Nat → Prop) (w : World) (h : WAt Y w v D) (hS : D.small) : Calls Try.prog 26 #[v.val D, .int .i64 id, .int .i64 wait] w (GivesW (setOut D id wait) w) := by
  have hb0 : Blw w (w.alloc (.cells #[.int .i64 D.now, .slice v.a1 D.N.n v.c1, .slice v.a2 D.F.n v.c2] 25)) := (Blw.refl _).alloc _
  have r0 := box3 w (.int .i64 D.now) (.slice v.a1 D.N.n v.c1) (.slice v.a2 D.F.n v.c2) 25
  obtain ⟨Wa, hWa⟩ : ∃ Wa, w.alloc (.cells #[.int .i64 D.now, .slice v.a1 D.N.n v.c1, .slice v.a2 D.F.n v.c2] 25) = Wa := ⟨_, rfl⟩
  rw [hWa] at hb0 r0
  have hsa : Wa.heap.size = w.heap.size + 1 := by rw [← hWa, World.size_alloc]
  have hb1 : Blw Wa (Wa.alloc (.cells #[.int .i64 0, .slice none 0 0, .slice none 0 0] 25)) := (Blw.refl _).alloc _
  have r1 := box3 Wa (.int .i64 0) (.slice none 0 0) (.slice none 0 0) 25
  have ra := r0.blw hb1
  obtain ⟨W0, hW0⟩ : ∃ W0, Wa.alloc (.cells #[.int .i64 0, .slice none 0 0, .slice none 0 0] 25) = W0 := ⟨_, rfl⟩
  rw [hW0] at hb1 r1 ra
  have HGD : Hid (Calls Try.prog 38 #[.agg #[.int .i64 D.now, .slice v.a1 D.N.n v.c1, .slice v.a2 D.F.n v.c2]] W0 (BRes (GoodD D) W0)) := specGood_any v D Y W0 ((h.blw hb0).blw hb1) hS
  have HAT : Hid (WAt Y W0 v D ∧ D.small) := ⟨(h.blw hb0).blw hb1, hS⟩
  have HB : Hid (Blw w W0 ∧ w.heap.size ≤ Wa.heap.size ∧ Wa.heap.size < W0.heap.size ∧ w.heap.size ≠ Wa.heap.size) := ⟨hb0.trans hb1, by omega, r1.lt, by omega⟩
  have HR1 : Hid (Row W0 Wa.heap.size 3 (t3 (.int .i64 0) (.slice none 0 0) (.slice none 0 0))) := r1
  have HRA : Hid (Row W0 w.heap.size 3 (t3 (.int .i64 D.now) (.slice v.a1 D.N.n v.c1) (.slice v.a2 D.F.n v.c2))) := ra
  clear h hb0 hb1 hsa hS
  have a0 : ∀ W, Blw W0 W → W.cell? ⟨w.heap.size, 0, none⟩ = some (.int .i64 D.now) := fun W hb => (get3 (HRA.out.blw hb)).1
  have a1 : ∀ W, Blw W0 W → W.cell? ⟨w.heap.size, 1, none⟩ = some (.slice v.a1 D.N.n v.c1) := fun W hb => (get3 (HRA.out.blw hb)).2.1
  have a2 : ∀ W, Blw W0 W → W.cell? ⟨w.heap.size, 2, none⟩ = some (.slice v.a2 D.F.n v.c2) := fun W hb => (get3 (HRA.out.blw hb)).2.2
  have b0 : ∀ W, Blw W0 W → W.cell? ⟨Wa.heap.size, 0, none⟩ = some (.int .i64 0) := fun W hb => (get3 (HR1.out.blw hb)).1
  have b1 : ∀ W, Blw W0 W → W.cell? ⟨Wa.heap.size, 1, none⟩ = some (.slice none 0 0) := fun W hb => (get3 (HR1.out.blw hb)).2.1
  have b2 : ∀ W, Blw W0 W → W.cell? ⟨Wa.heap.size, 2, none⟩ = some (.slice none 0 0) := fun W hb => (get3 (HR1.out.blw hb)).2.2
  have f0 : ∀ W, Blw W0 W → W.frozen? ⟨Wa.heap.size, 0, none⟩ = false := fun W hb => (HR1.out.blw hb).frozen 0
  have f1 : ∀ W, Blw W0 W → W.frozen? ⟨Wa.heap.size, 1, none⟩ = false := fun W hb => (HR1.out.blw hb).frozen 1
  have f2 : ∀ W, Blw W0 W → W.frozen? ⟨Wa.heap.size, 2, none⟩ = false := fun W hb => (HR1.out.blw hb).frozen 2
  have hrefl : Blw W0 W0 := Blw.refl _
  by_cases hg : GoodD D
  · have hn8 : D.N.n = 8 := hg.n
    have hf8 : D.F.n = 8 := hg.f
    have hwr0 : WRows Y W0 v D (rows16 D) := HAT.out.1.rows hn8 hf8
    have hall : (allS 8 (rows16 D)).length ≤ 20 := by rw [(allS_perm (rows16 D)).length_eq]; exact hg.g.len
    have HHA : Hid (∀ W, Blw W0 W → Calls Try.prog 61 #[.agg #[.int .i64 D.now, .slice v.a1 D.N.n v.c1, .slice v.a2 D.F.n v.c2], .int .i64 id] W (BRes (∃ x ∈ allR (rows16 D), x.1 = id) W)) := fun W hb => l11Has_any v D.now D.N D.F (rows16 D) Y id W hn8 hf8 (hwr0.blw hb) (by omega)
    have HAL : Hid (∀ W, Blw W0 W → Calls Try.prog 58 #[.agg #[.int .i64 D.now, .slice v.a1 D.N.n v.c1, .slice v.a2 D.F.n v.c2]] W fun e w' => ∃ a c, e = .returned (.slice a (allS 8 (rows16 D)).length c) ∧ Hid (LB (fun b => W.heap.size ≤ b ∧ b < w'.heap.size) w' a c (allS 8 (rows16 D)) ∧ Blw W w')) := fun W hb => l11All_any v D.now D.N D.F (rows16 D) Y W hn8 hf8 (hwr0.blw hb) (by omega)
    have HOW : Hid (∀ W, Blw W0 W → Calls Try.prog 53 #[.agg #[.int .i64 D.now, .slice v.a1 D.N.n v.c1, .slice v.a2 D.F.n v.c2]] W fun e w' => ∃ g1 g2 P C, e = .returned (.agg #[.int .i64 D.now, .slice (some ⟨g1, 0, none⟩) 8 8, .slice (some ⟨g2, 0, none⟩) 8 8]) ∧ Hid (OW W.heap.size g1 g2 (rows16 D) P C w' ∧ Blw W w')) := fun W hb => l11Own_any v D.now D.N D.F (rows16 D) Y W hn8 hf8 (hwr0.blw hb) (fun k hk => by have h5 := len_row (S := rows16 D) hk; have h6 := hg.g.len; omega) (fun k hk => rows16_out D k hk)
    have hall2 : (allS 8 (rows16 D)).length = (allR (rows16 D)).length := (allS_perm (rows16 D)).length_eq
    obtain ⟨L, hL⟩ : ∃ L, allS 8 (rows16 D) = L := ⟨_, rfl⟩
    rw [hL] at HAL hall hall2
    clear hL hwr0 hn8 hf8
    have G : Hid (GoodD D) := hg
    clear hg
    by_cases i1 : 1 ≤ id ∧ id ≤ 99
    · have I1 : Hid (1 ≤ id ∧ id ≤ 99) := i1
      clear i1
      by_cases i2 : 1 ≤ wait ∧ wait ≤ 55
      · have I2 : Hid (1 ≤ wait ∧ wait ≤ 55) := i2
        clear i2
        by_cases hh : ∃ x ∈ allR (rows16 D), x.1 = id
        · have HH : Hid (∃ x ∈ allR (rows16 D), x.1 = id) := hh
          clear hh
          go_enter Try.func26, Try.ntmps26
          go_upto_region 1 with fail
          try simp only [hWa, hW0]
          clear hWa hW0 r0 ra r1
          go_wp2_with (first | (go_at_call 38; refine HGD.out.mono ?_; rintro e w1 ⟨q1, rfl, hq1, hbw1⟩; obtain rfl : q1 = true := hq1.2 G.out; clear hq1) | (go_at_call_of 52 (Value.int .i64 (99 : Int)); refine (l1In_yes id 1 99 _ I1.out.1 I1.out.2).mono ?_; rintro e w' ⟨rfl, hw⟩; replace hw := hw.symm; subst hw) | (go_at_call_of 52 (Value.int .i64 (55 : Int)); refine (l1In_yes wait 1 55 _ I2.out.1 I2.out.2).mono ?_; rintro e w' ⟨rfl, hw⟩; replace hw := hw.symm; subst hw) | (go_at_call 61; refine (HHA.out _ hbw1).mono ?_; rintro e w2 ⟨q2, rfl, hq2, hbw2⟩; obtain rfl : q2 = true := hq2.2 HH.out; replace hbw2 := hbw1.trans hbw2; clear hq2) | fail)
          have hBX := hbw2
          have r9 := set3_2 (set3_1 (set3_0 (HR1.out.blw hBX) (.int .i64 0)) (.slice none 0 0)) (.slice none 0 0)
          obtain ⟨u0, u1, u2⟩ := get3 r9
          have mS := set3_mod (X := fun b => b = Wa.heap.size) w2 rfl (.int .i64 0) (.slice none 0 0) (.slice none 0 0)
          clear a0 a1 a2 b0 b1 b2 f0 f1 f2
          refine bodyPost_ret (v := .tuple #[.agg #[.int .i64 0, .slice none 0 0, .slice none 0 0], .bool false]) (by rw [results_cell_tmp rfl]; simp [asAddr, Result.andThen, go_sem, u0, u1, u2]) rfl ?_
          have hle := HB.out.2.1
          exact ⟨WV.zero, WD.zero, false, rfl, Or.inr ⟨fun hp => by obtain ⟨x, hx, e⟩ := HH.out; exact hp.2.2.2.2.2.2.2.1 x hx e, rfl, rfl⟩, small_zero, WOwn.zero _ _, Mod.blw (HB.out.1.trans hBX) mS (fun i e => by omega)⟩
        · have HH : Hid (¬ ∃ x ∈ allR (rows16 D), x.1 = id) := hh
          clear hh
          by_cases h20 : L.length = 20
          · have hd : decide ((L.length : Int) = 20) = true := decide_eq_true (by omega)
            go_enter Try.func26, Try.ntmps26
            go_upto_region 1 with fail
            try simp only [hWa, hW0]
            clear hWa hW0 r0 ra r1
            go_wp2_with (first | (go_at_call 38; refine HGD.out.mono ?_; rintro e w1 ⟨q1, rfl, hq1, hbw1⟩; obtain rfl : q1 = true := hq1.2 G.out; clear hq1) | (go_at_call_of 52 (Value.int .i64 (99 : Int)); refine (l1In_yes id 1 99 _ I1.out.1 I1.out.2).mono ?_; rintro e w' ⟨rfl, hw⟩; replace hw := hw.symm; subst hw) | (go_at_call_of 52 (Value.int .i64 (55 : Int)); refine (l1In_yes wait 1 55 _ I2.out.1 I2.out.2).mono ?_; rintro e w' ⟨rfl, hw⟩; replace hw := hw.symm; subst hw) | (go_at_call 61; refine (HHA.out _ hbw1).mono ?_; rintro e w2 ⟨q2, rfl, hq2, hbw2⟩; obtain rfl : q2 = false := (by cases q2; rfl; exact absurd (hq2.1 rfl) HH.out); replace hbw2 := hbw1.trans hbw2; clear hq2) | (go_at_call 58; refine (HAL.out _ hbw2).mono ?_; rintro e w3 ⟨sa, sc, rfl, hE3⟩; have hbw3 := hbw2.trans hE3.out.2) | fail)
            have hBX := hbw3
            have r9 := set3_2 (set3_1 (set3_0 (HR1.out.blw hBX) (.int .i64 0)) (.slice none 0 0)) (.slice none 0 0)
            obtain ⟨u0, u1, u2⟩ := get3 r9
            have mS := set3_mod (X := fun b => b = Wa.heap.size) w3 rfl (.int .i64 0) (.slice none 0 0) (.slice none 0 0)
            clear a0 a1 a2 b0 b1 b2 f0 f1 f2
            refine bodyPost_ret (v := .tuple #[.agg #[.int .i64 0, .slice none 0 0, .slice none 0 0], .bool false]) (by rw [results_cell_tmp rfl]; simp [asAddr, Result.andThen, go_sem, u0, u1, u2]) rfl ?_
            have hle := HB.out.2.1
            exact ⟨WV.zero, WD.zero, false, rfl, Or.inr ⟨fun hp => hp.2.2.2.2.2.2.2.2 (by rw [← hall2]; exact h20), rfl, rfl⟩, small_zero, WOwn.zero _ _, Mod.blw (HB.out.1.trans hBX) mS (fun i e => by omega)⟩
          · have hd : decide ((L.length : Int) = 20) = false := decide_eq_false (by omega)
            have HSP : Hid (SetP D id wait) := ⟨G.out, I2.out.1, I2.out.2, I1.out.1, I1.out.2, by have h5 := I2.out; show D.now < D.now + wait; omega, by have h5 := I2.out; show D.now + wait - D.now ≤ 63; omega, fun x hx e => HH.out ⟨x, hx, e⟩, by rw [← hall2]; exact h20⟩
            have hwr : IntKind.i64.wrap (D.now + wait) = D.now + wait := by have h5 := I2.out; have h6 := G.out.now; rw [IntKind.wrap_i64]; omega
            clear hall hall2
            go_enter Try.func26, Try.ntmps26
            go_upto_region 1 with fail
            try simp only [hWa, hW0]
            clear hWa hW0 r0 ra r1
            go_upto_region 3 with (first | (go_at_call 38; refine HGD.out.mono ?_; rintro e w1 ⟨q1, rfl, hq1, hbw1⟩; obtain rfl : q1 = true := hq1.2 G.out; clear hq1) | (go_at_call_of 52 (Value.int .i64 (99 : Int)); refine (l1In_yes id 1 99 _ I1.out.1 I1.out.2).mono ?_; rintro e w' ⟨rfl, hw⟩; replace hw := hw.symm; subst hw) | (go_at_call_of 52 (Value.int .i64 (55 : Int)); refine (l1In_yes wait 1 55 _ I2.out.1 I2.out.2).mono ?_; rintro e w' ⟨rfl, hw⟩; replace hw := hw.symm; subst hw) | (go_at_call 61; refine (HHA.out _ hbw1).mono ?_; rintro e w2 ⟨q2, rfl, hq2, hbw2⟩; obtain rfl : q2 = false := (by cases q2; rfl; exact absurd (hq2.1 rfl) HH.out); replace hbw2 := hbw1.trans hbw2; clear hq2) | (go_at_call 58; refine (HAL.out _ hbw2).mono ?_; rintro e w3 ⟨sa, sc, rfl, hE3⟩; have hbw3 := hbw2.trans hE3.out.2) | fail)
            clear hE3 HAL HHA HGD
            go_upto_region 4 with (first | (go_at_call 53; refine (HOW.out _ hbw3).mono ?_; rintro e w4 hE4; obtain ⟨g1, g2, P, C, rfl, hE⟩ : ∃ g1 g2 P C, e = .returned (.agg #[.int .i64 D.now, .slice (some ⟨g1, 0, none⟩) 8 8, .slice (some ⟨g2, 0, none⟩) 8 8]) ∧ Hid (OW w3.heap.size g1 g2 (rows16 D) P C w4 ∧ Blw w3 w4) := hE4) | fail)
            have hb3 := hbw3.size
            have hbw4 := hbw3.trans hE.out.2
            have hba : Blw w4 (w4.alloc (.cells #[.int .i64 D.now, .slice (some ⟨g1, 0, none⟩) 8 8, .slice (some ⟨g2, 0, none⟩) 8 8] 25)) := (Blw.refl _).alloc _
            have HZ : Hid (Row (w4.alloc (.cells #[.int .i64 D.now, .slice (some ⟨g1, 0, none⟩) 8 8, .slice (some ⟨g2, 0, none⟩) 8 8] 25)) w4.heap.size 3 (t3 (.int .i64 D.now) (.slice (some ⟨g1, 0, none⟩) 8 8) (.slice (some ⟨g2, 0, none⟩) 8 8))) := box3 w4 _ _ _ 25
            have HO : Hid (OW w3.heap.size g1 g2 (rows16 D) P C (w4.alloc (.cells #[.int .i64 D.now, .slice (some ⟨g1, 0, none⟩) 8 8, .slice (some ⟨g2, 0, none⟩) 8 8] 25)) ∧ g1 < w4.heap.size ∧ g2 < w4.heap.size ∧ W0.heap.size ≤ w3.heap.size) := ⟨hE.out.1.blw hba, hE.out.1.n.lt, hE.out.1.f.lt, hb3⟩
            have hbw5 := hbw4.trans hba
            generalize w4.alloc (.cells #[.int .i64 D.now, .slice (some ⟨g1, 0, none⟩) 8 8, .slice (some ⟨g2, 0, none⟩) 8 8] 25) = W5 at *
            have HPL : Hid (Calls Try.prog 62 #[.agg #[.int .i64 D.now, .slice (some ⟨g1, 0, none⟩) 8 8, .slice (some ⟨g2, 0, none⟩) 8 8], .agg #[.int .i64 id, .int .i64 (D.now + wait)]] W5 fun e w' => e = .returned (.tuple #[]) ∧ ∃ P' C', Hid (OW w3.heap.size g1 g2 (put D.now (rows16 D) (id, D.now + wait)) P' C' w' ∧ Mod (fun b => b = g1 ∨ b = g2) W5 w')) :=
              l11Place_any w3.heap.size g1 g2 D.now (rows16 D) P C (id, D.now + wait) W5 HO.out.1 (by have h5 := HZ.out.lt; have h6 := hE.out.2.size; omega) G.out.now.1 (by have := G.out.now.2; omega) (by have h5 := I2.out; have h6 := G.out.now; show 0 ≤ D.now + wait; omega) (by have h5 := I2.out; have h6 := G.out.now; show D.now + wait ≤ 1000000; omega) (fun k hk => by have h5 := len_row (S := rows16 D) hk; have h6 := G.out.g.len; omega)
            have hlo1 := HO.out.1.lo1
            have hlo2 := HO.out.1.lo2
            obtain ⟨z0, z1, z2⟩ := get3 HZ.out
            go_upto_region 5 with (first | (go_at_call 62; first | rw [hwr] | skip; refine HPL.out.mono ?_; rintro e w6 ⟨rfl, P', C', hE6⟩) | fail)
            have hbw6 : Blw W0 w6 := Mod.blw hbw5 hE6.out.2 (fun i e => by omega)
            have hZ6 := HZ.out.mod hE6.out.2 (fun e => by have h5 := HO.out.2; omega)
            obtain ⟨y0, y1, y2⟩ := get3 hZ6
            clear z0 z1 z2 hZ6
            go_wp2_with fail
            have r9 := set3_2 (set3_1 (set3_0 (HR1.out.blw hbw6) (.int .i64 D.now)) (.slice (some ⟨g1, 0, none⟩) 8 8)) (.slice (some ⟨g2, 0, none⟩) 8 8)
            obtain ⟨u0, u1, u2⟩ := get3 r9
            have mS := set3_mod (X := fun b => b = Wa.heap.size) w6 rfl (.int .i64 D.now) (.slice (some ⟨g1, 0, none⟩) 8 8) (.slice (some ⟨g2, 0, none⟩) 8 8)
            clear a0 a1 a2 b0 b1 b2 f0 f1 f2 y0 y1 y2
            refine bodyPost_ret (v := .tuple #[.agg #[.int .i64 D.now, .slice (some ⟨g1, 0, none⟩) 8 8, .slice (some ⟨g2, 0, none⟩) 8 8], .bool true]) (by rw [results_cell_tmp rfl]; simp [asAddr, Result.andThen, go_sem, u0, u1, u2]) rfl ?_
            have hle := HB.out.2.1
            have hlt := HB.out.2.2.1
            have h00 := HB.out.1.size
            have hlen := put_len G.out.g (id, D.now + wait)
            have hO9 := (hE6.out.1.mod mS (fun b hb e => by omega)).own D.now (fun k hk => by have h6 := len_row (S := put D.now (rows16 D) (id, D.now + wait)) hk; omega)
            exact ⟨⟨some ⟨g1, 0, none⟩, some ⟨g2, 0, none⟩, 8, 8⟩, wd8 D.now (put D.now (rows16 D) (id, D.now + wait)), true, rfl, Or.inl ⟨HSP.out, rfl, rfl⟩, small8 (by omega), hO9.mono (fun b hb => ⟨by omega, hb.2⟩), Mod.blw (HB.out.1.trans hbw6) mS (fun i e => by omega)⟩
      · have I2 : Hid (¬ (1 ≤ wait ∧ wait ≤ 55)) := i2
        clear i2
        go_enter Try.func26, Try.ntmps26
        go_upto_region 1 with fail
        try simp only [hWa, hW0]
        clear hWa hW0 r0 ra r1
        go_wp2_with (first | (go_at_call 38; refine HGD.out.mono ?_; rintro e w1 ⟨q1, rfl, hq1, hbw1⟩; obtain rfl : q1 = true := hq1.2 G.out; clear hq1) | (go_at_call_of 52 (Value.int .i64 (99 : Int)); refine (l1In_yes id 1 99 _ I1.out.1 I1.out.2).mono ?_; rintro e w' ⟨rfl, hw⟩; replace hw := hw.symm; subst hw) | (go_at_call_of 52 (Value.int .i64 (55 : Int)); refine (l1In_no wait 1 55 _ I2.out).mono ?_; rintro e w' ⟨rfl, hw⟩; replace hw := hw.symm; subst hw) | fail)
        have hBX := hbw1
        have r9 := set3_2 (set3_1 (set3_0 (HR1.out.blw hBX) (.int .i64 0)) (.slice none 0 0)) (.slice none 0 0)
        obtain ⟨u0, u1, u2⟩ := get3 r9
        have mS := set3_mod (X := fun b => b = Wa.heap.size) w1 rfl (.int .i64 0) (.slice none 0 0) (.slice none 0 0)
        clear a0 a1 a2 b0 b1 b2 f0 f1 f2
        refine bodyPost_ret (v := .tuple #[.agg #[.int .i64 0, .slice none 0 0, .slice none 0 0], .bool false]) (by rw [results_cell_tmp rfl]; simp [asAddr, Result.andThen, go_sem, u0, u1, u2]) rfl ?_
        have hle := HB.out.2.1
        exact ⟨WV.zero, WD.zero, false, rfl, Or.inr ⟨fun hp => I2.out ⟨hp.2.1, hp.2.2.1⟩, rfl, rfl⟩, small_zero, WOwn.zero _ _, Mod.blw (HB.out.1.trans hBX) mS (fun i e => by omega)⟩
    · have I1 : Hid (¬ (1 ≤ id ∧ id ≤ 99)) := i1
      clear i1
      go_enter Try.func26, Try.ntmps26
      go_upto_region 1 with fail
      try simp only [hWa, hW0]
      clear hWa hW0 r0 ra r1
      go_wp2_with (first | (go_at_call 38; refine HGD.out.mono ?_; rintro e w1 ⟨q1, rfl, hq1, hbw1⟩; obtain rfl : q1 = true := hq1.2 G.out; clear hq1) | (go_at_call_of 52 (Value.int .i64 (99 : Int)); refine (l1In_no id 1 99 _ I1.out).mono ?_; rintro e w' ⟨rfl, hw⟩; replace hw := hw.symm; subst hw) | fail)
      have hBX := hbw1
      have r9 := set3_2 (set3_1 (set3_0 (HR1.out.blw hBX) (.int .i64 0)) (.slice none 0 0)) (.slice none 0 0)
      obtain ⟨u0, u1, u2⟩ := get3 r9
      have mS := set3_mod (X := fun b => b = Wa.heap.size) w1 rfl (.int .i64 0) (.slice none 0 0) (.slice none 0 0)
      clear a0 a1 a2 b0 b1 b2 f0 f1 f2
      refine bodyPost_ret (v := .tuple #[.agg #[.int .i64 0, .slice none 0 0, .slice none 0 0], .bool false]) (by rw [results_cell_tmp rfl]; simp [asAddr, Result.andThen, go_sem, u0, u1, u2]) rfl ?_
      have hle := HB.out.2.1
      exact ⟨WV.zero, WD.zero, false, rfl, Or.inr ⟨fun hp => I1.out ⟨hp.2.2.2.1, hp.2.2.2.2.1⟩, rfl, rfl⟩, small_zero, WOwn.zero _ _, Mod.blw (HB.out.1.trans hBX) mS (fun i e => by omega)⟩
  · have NG : Hid (¬ GoodD D) := hg
    clear hg
    go_enter Try.func26, Try.ntmps26
    go_upto_region 1 with fail
    try simp only [hWa, hW0]
    clear hWa hW0 r0 ra r1
    go_wp2_with (first | (go_at_call 38; refine HGD.out.mono ?_; rintro e w1 ⟨q1, rfl, hq1, hbw1⟩; obtain rfl : q1 = false := (by cases q1; rfl; exact absurd (hq1.1 rfl) NG.out); clear hq1) | fail)
    have hBX := hbw1
    have r9 := set3_2 (set3_1 (set3_0 (HR1.out.blw hBX) (.int .i64 0)) (.slice none 0 0)) (.slice none 0 0)
    obtain ⟨u0, u1, u2⟩ := get3 r9
    have mS := set3_mod (X := fun b => b = Wa.heap.size) w1 rfl (.int .i64 0) (.slice none 0 0) (.slice none 0 0)
    clear a0 a1 a2 b0 b1 b2 f0 f1 f2
    refine bodyPost_ret (v := .tuple #[.agg #[.int .i64 0, .slice none 0 0, .slice none 0 0], .bool false]) (by rw [results_cell_tmp rfl]; simp [asAddr, Result.andThen, go_sem, u0, u1, u2]) rfl ?_
    have hle := HB.out.2.1
    exact ⟨WV.zero, WD.zero, false, rfl, Or.inr ⟨fun hp => NG.out hp.1, rfl, rfl⟩, small_zero, WOwn.zero _ _, Mod.blw (HB.out.1.trans hBX) mS (fun i e => by omega)⟩
end Go.Proofs.Ytkmkidahaagbpaa
