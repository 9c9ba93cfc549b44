/- The model's own wheels: their rows may be appended to. -/
import Derived.Test.YtkmkidahaagbpaaSRun
import Derived.Test.YtkmkidahaagbpaaSSet
import Derived.Test.YtkmkidahaagbpaaNw
import Derived.Test.YtkmkidahaagbpaaSrt
namespace Go.Proofs.Ytkmkidahaagbpaa
open Go.RowKit
set_option linter.unusedSimpArgs false
set_option linter.unusedVariables false
/-- A wheel of one's own whose rows have their blocks alone. -/
def HasO (w w' : World) (b : WV) (R : WD) : Prop := ∃ g1 g2 Rr P C, b = ⟨some ⟨g1, 0, none⟩, some ⟨g2, 0, none⟩, 8, 8⟩ ∧ R = wd8 R.now Rr ∧ OW w.heap.size g1 g2 Rr P C w'
def GivesO (out : WD → Bool → Prop) (w : World) : Ending → World → Prop := fun e w' =>
  ∃ (b : WV) (R : WD) (r : Bool), e = .returned (.tuple #[b.val R, .bool r]) ∧ out R r ∧ R.small ∧ WOwn (fun x => w.heap.size ≤ x ∧ x < w'.heap.size) w' b R ∧ Blw w w' ∧ (r = true → HasO w w' b R)
def GivesOI (out : WD → List Int → Bool → Prop) (w : World) : Ending → World → Prop := fun e w' =>
  ∃ (v : WV) (R : WD) (ao : Option Addr) (c m : Nat) (l : List Int) (b : Bool), e = .returned (.tuple #[v.val R, .slice ao m c, .bool b]) ∧ m = l.length ∧ out R l b ∧ R.small ∧ l.length ≤ 2000 ∧
    WOwn (fun x => (w.heap.size ≤ x ∧ x < w'.heap.size) ∧ ao ≠ some ⟨x, 0, none⟩) w' v R ∧ IntsOwn (fun x => (w.heap.size ≤ x ∧ x < w'.heap.size) ∧ ao = some ⟨x, 0, none⟩) w' ao l.length (gi l) ∧ Blw w w' ∧ (b = true → HasO w w' v R)
set_option linter.unusedSimpArgs false
set_option linter.unusedVariables false
set_option maxRecDepth 10000 in
set_option maxHeartbeats 3200000 in
theorem specSetO_any (v : WV) (D : WD) (id wait : Int) (Y : Nat → Prop) (w : World) (h : WAt Y w v D) (hS : D.small) : Calls Try.prog 26 #[v.val D, .int .i64 id, .int .i64 wait] w (GivesO (setOut D id wait) w) := by
  have hb0 : Blw w (w.alloc (.cells #[.int .i64 D.now, .slice v.a1 D.N.n v.c1, .slice v.a2 D.F.n v.c2] 25)) := (Blw.refl _).alloc _
  have r0 := box3 w (.int .i64 D.now) (.slice v.a1 D.N.n v.c1) (.slice v.a2 D.F.n v.c2) 25
  obtain ⟨Wa, hWa⟩ : ∃ Wa, w.alloc (.cells #[.int .i64 D.now, .slice v.a1 D.N.n v.c1, .slice v.a2 D.F.n v.c2] 25) = Wa := ⟨_, rfl⟩
  rw [hWa] at hb0 r0
  have hsa : Wa.heap.size = w.heap.size + 1 := by rw [← hWa, World.size_alloc]
  have hb1 : Blw Wa (Wa.alloc (.cells #[.int .i64 0, .slice none 0 0, .slice none 0 0] 25)) := (Blw.refl _).alloc _
  have r1 := box3 Wa (.int .i64 0) (.slice none 0 0) (.slice none 0 0) 25
  have ra := r0.blw hb1
  obtain ⟨W0, hW0⟩ : ∃ W0, Wa.alloc (.cells #[.int .i64 0, .slice none 0 0, .slice none 0 0] 25) = W0 := ⟨_, rfl⟩
  rw [hW0] at hb1 r1 ra
  have HGD : Hid (Calls Try.prog 38 #[.agg #[.int .i64 D.now, .slice v.a1 D.N.n v.c1, .slice v.a2 D.F.n v.c2]] W0 (BRes (GoodD D) W0)) := specGood_any v D Y W0 ((h.blw hb0).blw hb1) hS
  have HAT : Hid (WAt Y W0 v D ∧ D.small) := ⟨(h.blw hb0).blw hb1, hS⟩
  have HB : Hid (Blw w W0 ∧ w.heap.size ≤ Wa.heap.size ∧ Wa.heap.size < W0.heap.size ∧ w.heap.size ≠ Wa.heap.size) := ⟨hb0.trans hb1, by omega, r1.lt, by omega⟩
  have HR1 : Hid (Row W0 Wa.heap.size 3 (t3 (.int .i64 0) (.slice none 0 0) (.slice none 0 0))) := r1
  have HRA : Hid (Row W0 w.heap.size 3 (t3 (.int .i64 D.now) (.slice v.a1 D.N.n v.c1) (.slice v.a2 D.F.n v.c2))) := ra
  clear h hb0 hb1 hsa hS
  have a0 : ∀ W, Blw W0 W → W.cell? ⟨w.heap.size, 0, none⟩ = some (.int .i64 D.now) := fun W hb => (get3 (HRA.out.blw hb)).1
  have a1 : ∀ W, Blw W0 W → W.cell? ⟨w.heap.size, 1, none⟩ = some (.slice v.a1 D.N.n v.c1) := fun W hb => (get3 (HRA.out.blw hb)).2.1
  have a2 : ∀ W, Blw W0 W → W.cell? ⟨w.heap.size, 2, none⟩ = some (.slice v.a2 D.F.n v.c2) := fun W hb => (get3 (HRA.out.blw hb)).2.2
  have b0 : ∀ W, Blw W0 W → W.cell? ⟨Wa.heap.size, 0, none⟩ = some (.int .i64 0) := fun W hb => (get3 (HR1.out.blw hb)).1
  have b1 : ∀ W, Blw W0 W → W.cell? ⟨Wa.heap.size, 1, none⟩ = some (.slice none 0 0) := fun W hb => (get3 (HR1.out.blw hb)).2.1
  have b2 : ∀ W, Blw W0 W → W.cell? ⟨Wa.heap.size, 2, none⟩ = some (.slice none 0 0) := fun W hb => (get3 (HR1.out.blw hb)).2.2
  have f0 : ∀ W, Blw W0 W → W.frozen? ⟨Wa.heap.size, 0, none⟩ = false := fun W hb => (HR1.out.blw hb).frozen 0
  have f1 : ∀ W, Blw W0 W → W.frozen? ⟨Wa.heap.size, 1, none⟩ = false := fun W hb => (HR1.out.blw hb).frozen 1
  have f2 : ∀ W, Blw W0 W → W.frozen? ⟨Wa.heap.size, 2, none⟩ = false := fun W hb => (HR1.out.blw hb).frozen 2
  have hrefl : Blw W0 W0 := Blw.refl _
  by_cases hg : GoodD D
  · have hn8 : D.N.n = 8 := hg.n
    have hf8 : D.F.n = 8 := hg.f
    have hwr0 : WRows Y W0 v D (rows16 D) := HAT.out.1.rows hn8 hf8
    have hall : (allS 8 (rows16 D)).length ≤ 20 := by rw [(allS_perm (rows16 D)).length_eq]; exact hg.g.len
    have HHA : Hid (∀ W, Blw W0 W → Calls Try.prog 61 #[.agg #[.int .i64 D.now, .slice v.a1 D.N.n v.c1, .slice v.a2 D.F.n v.c2], .int .i64 id] W (BRes (∃ x ∈ allR (rows16 D), x.1 = id) W)) := fun W hb => l11Has_any v D.now D.N D.F (rows16 D) Y id W hn8 hf8 (hwr0.blw hb) (by omega)
    have HAL : Hid (∀ W, Blw W0 W → Calls Try.prog 58 #[.agg #[.int .i64 D.now, .slice v.a1 D.N.n v.c1, .slice v.a2 D.F.n v.c2]] W fun e w' => ∃ a c, e = .returned (.slice a (allS 8 (rows16 D)).length c) ∧ Hid (LB (fun b => W.heap.size ≤ b ∧ b < w'.heap.size) w' a c (allS 8 (rows16 D)) ∧ Blw W w')) := fun W hb => l11All_any v D.now D.N D.F (rows16 D) Y W hn8 hf8 (hwr0.blw hb) (by omega)
    have HOW : Hid (∀ W, Blw W0 W → Calls Try.prog 53 #[.agg #[.int .i64 D.now, .slice v.a1 D.N.n v.c1, .slice v.a2 D.F.n v.c2]] W fun e w' => ∃ g1 g2 P C, e = .returned (.agg #[.int .i64 D.now, .slice (some ⟨g1, 0, none⟩) 8 8, .slice (some ⟨g2, 0, none⟩) 8 8]) ∧ Hid (OW W.heap.size g1 g2 (rows16 D) P C w' ∧ Blw W w')) := fun W hb => l11Own_any v D.now D.N D.F (rows16 D) Y W hn8 hf8 (hwr0.blw hb) (fun k hk => by have h5 := len_row (S := rows16 D) hk; have h6 := hg.g.len; omega) (fun k hk => rows16_out D k hk)
    have hall2 : (allS 8 (rows16 D)).length = (allR (rows16 D)).length := (allS_perm (rows16 D)).length_eq
    obtain ⟨L, hL⟩ : ∃ L, allS 8 (rows16 D) = L := ⟨_, rfl⟩
    rw [hL] at HAL hall hall2
    clear hL hwr0 hn8 hf8
    have G : Hid (GoodD D) := hg
    clear hg
    by_cases i1 : 1 ≤ id ∧ id ≤ 99
    · have I1 : Hid (1 ≤ id ∧ id ≤ 99) := i1
      clear i1
      by_cases i2 : 1 ≤ wait ∧ wait ≤ 55
      · have I2 : Hid (1 ≤ wait ∧ wait ≤ 55) := i2
        clear i2
        by_cases hh : ∃ x ∈ allR (rows16 D), x.1 = id
        · have HH : Hid (∃ x ∈ allR (rows16 D), x.1 = id) := hh
          clear hh
          go_enter Try.func26, Try.ntmps26
          go_upto_region 1 with fail
          try simp only [hWa, hW0]
          clear hWa hW0 r0 ra r1
          go_wp2_with (first | (go_at_call 38; refine HGD.out.mono ?_; rintro e w1 ⟨q1, rfl, hq1, hbw1⟩; obtain rfl : q1 = true := hq1.2 G.out; clear hq1) | (go_at_call_of 52 (Value.int .i64 (99 : Int)); refine (l1In_yes id 1 99 _ I1.out.1 I1.out.2).mono ?_; rintro e w' ⟨rfl, hw⟩; replace hw := hw.symm; subst hw) | (go_at_call_of 52 (Value.int .i64 (55 : Int)); refine (l1In_yes wait 1 55 _ I2.out.1 I2.out.2).mono ?_; rintro e w' ⟨rfl, hw⟩; replace hw := hw.symm; subst hw) | (go_at_call 61; refine (HHA.out _ hbw1).mono ?_; rintro e w2 ⟨q2, rfl, hq2, hbw2⟩; obtain rfl : q2 = true := hq2.2 HH.out; replace hbw2 := hbw1.trans hbw2; clear hq2) | fail)
          have hBX := hbw2
          have r9 := set3_2 (set3_1 (set3_0 (HR1.out.blw hBX) (.int .i64 0)) (.slice none 0 0)) (.slice none 0 0)
          obtain ⟨u0, u1, u2⟩ := get3 r9
          have mS := set3_mod (X := fun b => b = Wa.heap.size) w2 rfl (.int .i64 0) (.slice none 0 0) (.slice none 0 0)
          clear a0 a1 a2 b0 b1 b2 f0 f1 f2
          refine bodyPost_ret (v := .tuple #[.agg #[.int .i64 0, .slice none 0 0, .slice none 0 0], .bool false]) (by rw [results_cell_tmp rfl]; simp [asAddr, Result.andThen, go_sem, u0, u1, u2]) rfl ?_
          have hle := HB.out.2.1
          exact ⟨WV.zero, WD.zero, false, rfl, Or.inr ⟨fun hp => by obtain ⟨x, hx, e⟩ := HH.out; exact hp.2.2.2.2.2.2.2.1 x hx e, rfl, rfl⟩, small_zero, WOwn.zero _ _, Mod.blw (HB.out.1.trans hBX) mS (fun i e => by omega), fun h => by cases h⟩
        · have HH : Hid (¬ ∃ x ∈ allR (rows16 D), x.1 = id) := hh
          clear hh
          by_cases h20 : L.length = 20
          · have hd : decide ((L.length : Int) = 20) = true := decide_eq_true (by omega)
            go_enter Try.func26, Try.ntmps26
            go_upto_region 1 with fail
            try simp only [hWa, hW0]
            clear hWa hW0 r0 ra r1
            go_wp2_with (first | (go_at_call 38; refine HGD.out.mono ?_; rintro e w1 ⟨q1, rfl, hq1, hbw1⟩; obtain rfl : q1 = true := hq1.2 G.out; clear hq1) | (go_at_call_of 52 (Value.int .i64 (99 : Int)); refine (l1In_yes id 1 99 _ I1.out.1 I1.out.2).mono ?_; rintro e w' ⟨rfl, hw⟩; replace hw := hw.symm; subst hw) | (go_at_call_of 52 (Value.int .i64 (55 : Int)); refine (l1In_yes wait 1 55 _ I2.out.1 I2.out.2).mono ?_; rintro e w' ⟨rfl, hw⟩; replace hw := hw.symm; subst hw) | (go_at_call 61; refine (HHA.out _ hbw1).mono ?_; rintro e w2 ⟨q2, rfl, hq2, hbw2⟩; obtain rfl : q2 = false := (by cases q2; rfl; exact absurd (hq2.1 rfl) HH.out); replace hbw2 := hbw1.trans hbw2; clear hq2) | (go_at_call 58; refine (HAL.out _ hbw2).mono ?_; rintro e w3 ⟨sa, sc, rfl, hE3⟩; have hbw3 := hbw2.trans hE3.out.2) | fail)
            have hBX := hbw3
            have r9 := set3_2 (set3_1 (set3_0 (HR1.out.blw hBX) (.int .i64 0)) (.slice none 0 0)) (.slice none 0 0)
            obtain ⟨u0, u1, u2⟩ := get3 r9
            have mS := set3_mod (X := fun b => b = Wa.heap.size) w3 rfl (.int .i64 0) (.slice none 0 0) (.slice none 0 0)
            clear a0 a1 a2 b0 b1 b2 f0 f1 f2
            refine bodyPost_ret (v := .tuple #[.agg #[.int .i64 0, .slice none 0 0, .slice none 0 0], .bool false]) (by rw [results_cell_tmp rfl]; simp [asAddr, Result.andThen, go_sem, u0, u1, u2]) rfl ?_
            have hle := HB.out.2.1
            exact ⟨WV.zero, WD.zero, false, rfl, Or.inr ⟨fun hp => hp.2.2.2.2.2.2.2.2 (by rw [← hall2]; exact h20), rfl, rfl⟩, small_zero, WOwn.zero _ _, Mod.blw (HB.out.1.trans hBX) mS (fun i e => by omega), fun h => by cases h⟩
          · have hd : decide ((L.length : Int) = 20) = false := decide_eq_false (by omega)
            have HSP : Hid (SetP D id wait) := ⟨G.out, I2.out.1, I2.out.2, I1.out.1, I1.out.2, by have h5 := I2.out; show D.now < D.now + wait; omega, by have h5 := I2.out; show D.now + wait - D.now ≤ 63; omega, fun x hx e => HH.out ⟨x, hx, e⟩, by rw [← hall2]; exact h20⟩
            have hwr : IntKind.i64.wrap (D.now + wait) = D.now + wait := by have h5 := I2.out; have h6 := G.out.now; rw [IntKind.wrap_i64]; omega
            clear hall hall2
            go_enter Try.func26, Try.ntmps26
            go_upto_region 1 with fail
            try simp only [hWa, hW0]
            clear hWa hW0 r0 ra r1
            go_upto_region 3 with (first | (go_at_call 38; refine HGD.out.mono ?_; rintro e w1 ⟨q1, rfl, hq1, hbw1⟩; obtain rfl : q1 = true := hq1.2 G.out; clear hq1) | (go_at_call_of 52 (Value.int .i64 (99 : Int)); refine (l1In_yes id 1 99 _ I1.out.1 I1.out.2).mono ?_; rintro e w' ⟨rfl, hw⟩; replace hw := hw.symm; subst hw) | (go_at_call_of 52 (Value.int .i64 (55 : Int)); refine (l1In_yes wait 1 55 _ I2.out.1 I2.out.2).mono ?_; rintro e w' ⟨rfl, hw⟩; replace hw := hw.symm; subst hw) | (go_at_call 61; refine (HHA.out _ hbw1).mono ?_; rintro e w2 ⟨q2, rfl, hq2, hbw2⟩; obtain rfl : q2 = false := (by cases q2; rfl; exact absurd (hq2.1 rfl) HH.out); replace hbw2 := hbw1.trans hbw2; clear hq2) | (go_at_call 58; refine (HAL.out _ hbw2).mono ?_; rintro e w3 ⟨sa, sc, rfl, hE3⟩; have hbw3 := hbw2.trans hE3.out.2) | fail)
            clear hE3 HAL HHA HGD
            go_upto_region 4 with (first | (go_at_call 53; refine (HOW.out _ hbw3).mono ?_; rintro e w4 hE4; obtain ⟨g1, g2, P, C, rfl, hE⟩ : ∃ g1 g2 P C, e = .returned (.agg #[.int .i64 D.now, .slice (some ⟨g1, 0, none⟩) 8 8, .slice (some ⟨g2, 0, none⟩) 8 8]) ∧ Hid (OW w3.heap.size g1 g2 (rows16 D) P C w4 ∧ Blw w3 w4) := hE4) | fail)
            have hb3 := hbw3.size
            have hbw4 := hbw3.trans hE.out.2
            have hba : Blw w4 (w4.alloc (.cells #[.int .i64 D.now, .slice (some ⟨g1, 0, none⟩) 8 8, .slice (some ⟨g2, 0, none⟩) 8 8] 25)) := (Blw.refl _).alloc _
            have HZ : Hid (Row (w4.alloc (.cells #[.int .i64 D.now, .slice (some ⟨g1, 0, none⟩) 8 8, .slice (some ⟨g2, 0, none⟩) 8 8] 25)) w4.heap.size 3 (t3 (.int .i64 D.now) (.slice (some ⟨g1, 0, none⟩) 8 8) (.slice (some ⟨g2, 0, none⟩) 8 8))) := box3 w4 _ _ _ 25
            have HO : Hid (OW w3.heap.size g1 g2 (rows16 D) P C (w4.alloc (.cells #[.int .i64 D.now, .slice (some ⟨g1, 0, none⟩) 8 8, .slice (some ⟨g2, 0, none⟩) 8 8] 25)) ∧ g1 < w4.heap.size ∧ g2 < w4.heap.size ∧ W0.heap.size ≤ w3.heap.size) := ⟨hE.out.1.blw hba, hE.out.1.n.lt, hE.out.1.f.lt, hb3⟩
            have hbw5 := hbw4.trans hba
            generalize w4.alloc (.cells #[.int .i64 D.now, .slice (some ⟨g1, 0, none⟩) 8 8, .slice (some ⟨g2, 0, none⟩) 8 8] 25) = W5 at *
            have HPL : Hid (Calls Try.prog 62 #[.agg #[.int .i64 D.now, .slice (some ⟨g1, 0, none⟩) 8 8, .slice (some ⟨g2, 0, none⟩) 8 8], .agg #[.int .i64 id, .int .i64 (D.now + wait)]] W5 fun e w' => e = .returned (.tuple #[]) ∧ ∃ P' C', Hid (OW w3.heap.size g1 g2 (put D.now (rows16 D) (id, D.now + wait)) P' C' w' ∧ Mod (fun b => b = g1 ∨ b = g2) W5 w')) :=
              l11Place_any w3.heap.size g1 g2 D.now (rows16 D) P C (id, D.now + wait) W5 HO.out.1 (by have h5 := HZ.out.lt; have h6 := hE.out.2.size; omega) G.out.now.1 (by have := G.out.now.2; omega) (by have h5 := I2.out; have h6 := G.out.now; show 0 ≤ D.now + wait; omega) (by have h5 := I2.out; have h6 := G.out.now; show D.now + wait ≤ 1000000; omega) (fun k hk => by have h5 := len_row (S := rows16 D) hk; have h6 := G.out.g.len; omega)
            have hlo1 := HO.out.1.lo1
            have hlo2 := HO.out.1.lo2
            obtain ⟨z0, z1, z2⟩ := get3 HZ.out
            go_upto_region 5 with (first | (go_at_call 62; first | rw [hwr] | skip; refine HPL.out.mono ?_; rintro e w6 ⟨rfl, P', C', hE6⟩) | fail)
            have hbw6 : Blw W0 w6 := Mod.blw hbw5 hE6.out.2 (fun i e => by omega)
            have hZ6 := HZ.out.mod hE6.out.2 (fun e => by have h5 := HO.out.2; omega)
            obtain ⟨y0, y1, y2⟩ := get3 hZ6
            clear z0 z1 z2 hZ6
            go_wp2_with fail
            have r9 := set3_2 (set3_1 (set3_0 (HR1.out.blw hbw6) (.int .i64 D.now)) (.slice (some ⟨g1, 0, none⟩) 8 8)) (.slice (some ⟨g2, 0, none⟩) 8 8)
            obtain ⟨u0, u1, u2⟩ := get3 r9
            have mS := set3_mod (X := fun b => b = Wa.heap.size) w6 rfl (.int .i64 D.now) (.slice (some ⟨g1, 0, none⟩) 8 8) (.slice (some ⟨g2, 0, none⟩) 8 8)
            clear a0 a1 a2 b0 b1 b2 f0 f1 f2 y0 y1 y2
            refine bodyPost_ret (v := .tuple #[.agg #[.int .i64 D.now, .slice (some ⟨g1, 0, none⟩) 8 8, .slice (some ⟨g2, 0, none⟩) 8 8], .bool true]) (by rw [results_cell_tmp rfl]; simp [asAddr, Result.andThen, go_sem, u0, u1, u2]) rfl ?_
            have hle := HB.out.2.1
            have hlt := HB.out.2.2.1
            have h00 := HB.out.1.size
            have hlen := put_len G.out.g (id, D.now + wait)
            have hO9 := (hE6.out.1.mod mS (fun b hb e => by omega)).own D.now (fun k hk => by have h6 := len_row (S := put D.now (rows16 D) (id, D.now + wait)) hk; omega)
            exact ⟨⟨some ⟨g1, 0, none⟩, some ⟨g2, 0, none⟩, 8, 8⟩, wd8 D.now (put D.now (rows16 D) (id, D.now + wait)), true, rfl, Or.inl ⟨HSP.out, rfl, rfl⟩, small8 (by omega), hO9.mono (fun b hb => ⟨by omega, hb.2⟩), Mod.blw (HB.out.1.trans hbw6) mS (fun i e => by omega), fun _ => ⟨g1, g2, _, _, _, rfl, rfl, (hE6.out.1.mod mS (fun b hb e => by omega)).lower (by omega)⟩⟩
      · have I2 : Hid (¬ (1 ≤ wait ∧ wait ≤ 55)) := i2
        clear i2
        go_enter Try.func26, Try.ntmps26
        go_upto_region 1 with fail
        try simp only [hWa, hW0]
        clear hWa hW0 r0 ra r1
        go_wp2_with (first | (go_at_call 38; refine HGD.out.mono ?_; rintro e w1 ⟨q1, rfl, hq1, hbw1⟩; obtain rfl : q1 = true := hq1.2 G.out; clear hq1) | (go_at_call_of 52 (Value.int .i64 (99 : Int)); refine (l1In_yes id 1 99 _ I1.out.1 I1.out.2).mono ?_; rintro e w' ⟨rfl, hw⟩; replace hw := hw.symm; subst hw) | (go_at_call_of 52 (Value.int .i64 (55 : Int)); refine (l1In_no wait 1 55 _ I2.out).mono ?_; rintro e w' ⟨rfl, hw⟩; replace hw := hw.symm; subst hw) | fail)
        have hBX := hbw1
        have r9 := set3_2 (set3_1 (set3_0 (HR1.out.blw hBX) (.int .i64 0)) (.slice none 0 0)) (.slice none 0 0)
        obtain ⟨u0, u1, u2⟩ := get3 r9
        have mS := set3_mod (X := fun b => b = Wa.heap.size) w1 rfl (.int .i64 0) (.slice none 0 0) (.slice none 0 0)
        clear a0 a1 a2 b0 b1 b2 f0 f1 f2
        refine bodyPost_ret (v := .tuple #[.agg #[.int .i64 0, .slice none 0 0, .slice none 0 0], .bool false]) (by rw [results_cell_tmp rfl]; simp [asAddr, Result.andThen, go_sem, u0, u1, u2]) rfl ?_
        have hle := HB.out.2.1
        exact ⟨WV.zero, WD.zero, false, rfl, Or.inr ⟨fun hp => I2.out ⟨hp.2.1, hp.2.2.1⟩, rfl, rfl⟩, small_zero, WOwn.zero _ _, Mod.blw (HB.out.1.trans hBX) mS (fun i e => by omega), fun h => by cases h⟩
    · have I1 : Hid (¬ (1 ≤ id ∧ id ≤ 99)) := i1
      clear i1
      go_enter Try.func26, Try.ntmps26
      go_upto_region 1 with fail
      try simp only [hWa, hW0]
      clear hWa hW0 r0 ra r1
      go_wp2_with (first | (go_at_call 38; refine HGD.out.mono ?_; rintro e w1 ⟨q1, rfl, hq1, hbw1⟩; obtain rfl : q1 = true := hq1.2 G.out; clear hq1) | (go_at_call_of 52 (Value.int .i64 (99 : Int)); refine (l1In_no id 1 99 _ I1.out).mono ?_; rintro e w' ⟨rfl, hw⟩; replace hw := hw.symm; subst hw) | fail)
      have hBX := hbw1
      have r9 := set3_2 (set3_1 (set3_0 (HR1.out.blw hBX) (.int .i64 0)) (.slice none 0 0)) (.slice none 0 0)
      obtain ⟨u0, u1, u2⟩ := get3 r9
      have mS := set3_mod (X := fun b => b = Wa.heap.size) w1 rfl (.int .i64 0) (.slice none 0 0) (.slice none 0 0)
      clear a0 a1 a2 b0 b1 b2 f0 f1 f2
      refine bodyPost_ret (v := .tuple #[.agg #[.int .i64 0, .slice none 0 0, .slice none 0 0], .bool false]) (by rw [results_cell_tmp rfl]; simp [asAddr, Result.andThen, go_sem, u0, u1, u2]) rfl ?_
      have hle := HB.out.2.1
      exact ⟨WV.zero, WD.zero, false, rfl, Or.inr ⟨fun hp => I1.out ⟨hp.2.2.2.1, hp.2.2.2.2.1⟩, rfl, rfl⟩, small_zero, WOwn.zero _ _, Mod.blw (HB.out.1.trans hBX) mS (fun i e => by omega), fun h => by cases h⟩
  · have NG : Hid (¬ GoodD D) := hg
    clear hg
    go_enter Try.func26, Try.ntmps26
    go_upto_region 1 with fail
    try simp only [hWa, hW0]
    clear hWa hW0 r0 ra r1
    go_wp2_with (first | (go_at_call 38; refine HGD.out.mono ?_; rintro e w1 ⟨q1, rfl, hq1, hbw1⟩; obtain rfl : q1 = false := (by cases q1; rfl; exact absurd (hq1.1 rfl) NG.out); clear hq1) | fail)
    have hBX := hbw1
    have r9 := set3_2 (set3_1 (set3_0 (HR1.out.blw hBX) (.int .i64 0)) (.slice none 0 0)) (.slice none 0 0)
    obtain ⟨u0, u1, u2⟩ := get3 r9
    have mS := set3_mod (X := fun b => b = Wa.heap.size) w1 rfl (.int .i64 0) (.slice none 0 0) (.slice none 0 0)
    clear a0 a1 a2 b0 b1 b2 f0 f1 f2
    refine bodyPost_ret (v := .tuple #[.agg #[.int .i64 0, .slice none 0 0, .slice none 0 0], .bool false]) (by rw [results_cell_tmp rfl]; simp [asAddr, Result.andThen, go_sem, u0, u1, u2]) rfl ?_
    have hle := HB.out.2.1
    exact ⟨WV.zero, WD.zero, false, rfl, Or.inr ⟨fun hp => NG.out hp.1, rfl, rfl⟩, small_zero, WOwn.zero _ _, Mod.blw (HB.out.1.trans hBX) mS (fun i e => by omega), fun h => by cases h⟩
set_option maxRecDepth 10000 in
set_option maxHeartbeats 3200000 in
theorem specRunO_any (v : WV) (D : WD) (t : Int) (Y : Nat → Prop) (w : World) (h : WAt Y w v D) (hS : D.small) : Calls Try.prog 14 #[v.val D, .int .i64 t] w (GivesOI (runOut D t) w) := by
  have hb0 : Blw w (w.alloc (.cells #[.int .i64 D.now, .slice v.a1 D.N.n v.c1, .slice v.a2 D.F.n v.c2] 25)) := (Blw.refl _).alloc _
  have r0 := box3 w (.int .i64 D.now) (.slice v.a1 D.N.n v.c1) (.slice v.a2 D.F.n v.c2) 25
  obtain ⟨Wa, hWa⟩ : ∃ Wa, w.alloc (.cells #[.int .i64 D.now, .slice v.a1 D.N.n v.c1, .slice v.a2 D.F.n v.c2] 25) = Wa := ⟨_, rfl⟩
  rw [hWa] at hb0 r0
  have hsa : Wa.heap.size = w.heap.size + 1 := by rw [← hWa, World.size_alloc]
  have hb1 : Blw Wa (Wa.alloc (.cells #[.int .i64 0, .slice none 0 0, .slice none 0 0] 25)) := (Blw.refl _).alloc _
  have r1 := box3 Wa (.int .i64 0) (.slice none 0 0) (.slice none 0 0) 25
  have ra := r0.blw hb1
  obtain ⟨W0, hW0⟩ : ∃ W0, Wa.alloc (.cells #[.int .i64 0, .slice none 0 0, .slice none 0 0] 25) = W0 := ⟨_, rfl⟩
  rw [hW0] at hb1 r1 ra
  have HGD : Hid (Calls Try.prog 38 #[.agg #[.int .i64 D.now, .slice v.a1 D.N.n v.c1, .slice v.a2 D.F.n v.c2]] W0 (BRes (GoodD D) W0)) := specGood_any v D Y W0 ((h.blw hb0).blw hb1) hS
  have HAT : Hid (WAt Y W0 v D ∧ D.small) := ⟨(h.blw hb0).blw hb1, hS⟩
  have HB : Hid (Blw w W0 ∧ w.heap.size ≤ Wa.heap.size ∧ Wa.heap.size < W0.heap.size ∧ w.heap.size ≠ Wa.heap.size) := ⟨hb0.trans hb1, by omega, r1.lt, by omega⟩
  have HR1 : Hid (Row W0 Wa.heap.size 3 (t3 (.int .i64 0) (.slice none 0 0) (.slice none 0 0))) := r1
  have HRA : Hid (Row W0 w.heap.size 3 (t3 (.int .i64 D.now) (.slice v.a1 D.N.n v.c1) (.slice v.a2 D.F.n v.c2))) := ra
  clear h hb0 hb1 hsa hS
  have a0 : ∀ W, Blw W0 W → W.cell? ⟨w.heap.size, 0, none⟩ = some (.int .i64 D.now) := fun W hb => (get3 (HRA.out.blw hb)).1
  have a1 : ∀ W, Blw W0 W → W.cell? ⟨w.heap.size, 1, none⟩ = some (.slice v.a1 D.N.n v.c1) := fun W hb => (get3 (HRA.out.blw hb)).2.1
  have a2 : ∀ W, Blw W0 W → W.cell? ⟨w.heap.size, 2, none⟩ = some (.slice v.a2 D.F.n v.c2) := fun W hb => (get3 (HRA.out.blw hb)).2.2
  have b0 : ∀ W, Blw W0 W → W.cell? ⟨Wa.heap.size, 0, none⟩ = some (.int .i64 0) := fun W hb => (get3 (HR1.out.blw hb)).1
  have b1 : ∀ W, Blw W0 W → W.cell? ⟨Wa.heap.size, 1, none⟩ = some (.slice none 0 0) := fun W hb => (get3 (HR1.out.blw hb)).2.1
  have b2 : ∀ W, Blw W0 W → W.cell? ⟨Wa.heap.size, 2, none⟩ = some (.slice none 0 0) := fun W hb => (get3 (HR1.out.blw hb)).2.2
  have f0 : ∀ W, Blw W0 W → W.frozen? ⟨Wa.heap.size, 0, none⟩ = false := fun W hb => (HR1.out.blw hb).frozen 0
  have f1 : ∀ W, Blw W0 W → W.frozen? ⟨Wa.heap.size, 1, none⟩ = false := fun W hb => (HR1.out.blw hb).frozen 1
  have f2 : ∀ W, Blw W0 W → W.frozen? ⟨Wa.heap.size, 2, none⟩ = false := fun W hb => (HR1.out.blw hb).frozen 2
  have hrefl : Blw W0 W0 := Blw.refl _
  by_cases hg : GoodD D
  · have hn8 : D.N.n = 8 := hg.n
    have hf8 : D.F.n = 8 := hg.f
    have hwr0 : WRows Y W0 v D (rows16 D) := HAT.out.1.rows hn8 hf8
    have hall : (allS 8 (rows16 D)).length ≤ 20 := by rw [(allS_perm (rows16 D)).length_eq]; exact hg.g.len
    have HHA : Hid True := trivial
    have HAL : Hid (∀ W, Blw W0 W → Calls Try.prog 58 #[.agg #[.int .i64 D.now, .slice v.a1 D.N.n v.c1, .slice v.a2 D.F.n v.c2]] W fun e w' => ∃ a c, e = .returned (.slice a (allS 8 (rows16 D)).length c) ∧ Hid (LB (fun b => W.heap.size ≤ b ∧ b < w'.heap.size) w' a c (allS 8 (rows16 D)) ∧ Blw W w')) := fun W hb => l11All_any v D.now D.N D.F (rows16 D) Y W hn8 hf8 (hwr0.blw hb) (by omega)
    have HOW : Hid (∀ W, Blw W0 W → Calls Try.prog 53 #[.agg #[.int .i64 D.now, .slice v.a1 D.N.n v.c1, .slice v.a2 D.F.n v.c2]] W fun e w' => ∃ g1 g2 P C, e = .returned (.agg #[.int .i64 D.now, .slice (some ⟨g1, 0, none⟩) 8 8, .slice (some ⟨g2, 0, none⟩) 8 8]) ∧ Hid (OW W.heap.size g1 g2 (rows16 D) P C w' ∧ Blw W w')) := fun W hb => l11Own_any v D.now D.N D.F (rows16 D) Y W hn8 hf8 (hwr0.blw hb) (fun k hk => by have h5 := len_row (S := rows16 D) hk; have h6 := hg.g.len; omega) (fun k hk => rows16_out D k hk)
    have hall2 : (allS 8 (rows16 D)).length = (allR (rows16 D)).length := (allS_perm (rows16 D)).length_eq
    obtain ⟨L, hL⟩ : ∃ L, allS 8 (rows16 D) = L := ⟨_, rfl⟩
    rw [hL] at HAL hall hall2
    clear hL hwr0 hn8 hf8
    have G : Hid (GoodD D) := hg
    have hgn := hg.now
    clear hg hall
    by_cases i1 : 0 ≤ t ∧ t ≤ 100
    · have I1 : Hid (0 ≤ t ∧ t ≤ 100) := i1
      have hwr : IntKind.i64.wrap (D.now + t) = D.now + t := by rw [IntKind.wrap_i64]; omega
      by_cases i3 : D.now + t ≤ 1000
      · have I3 : Hid (D.now + t ≤ 1000) := i3
        have hd : decide (D.now + t > 1000) = false := decide_eq_false (by omega)
        clear i1 i3 hgn
        go_enter Try.func14, Try.ntmps14
        go_upto_region 1 with fail
        try simp only [hWa, hW0]
        clear hWa hW0 r0 ra r1
        go_upto_region 3 with (first | (go_at_call 38; refine HGD.out.mono ?_; rintro e w1 ⟨q1, rfl, hq1, hbw1⟩; obtain rfl : q1 = true := hq1.2 G.out; clear hq1) | (go_at_call_of 52 (Value.int .i64 (100 : Int)); refine (l1In_yes t 0 100 _ I1.out.1 I1.out.2).mono ?_; rintro e w' ⟨rfl, hw⟩; replace hw := hw.symm; subst hw) | fail)
        go_upto_region 4 with (first | (go_at_call 53; refine (HOW.out _ hbw1).mono ?_; rintro e w4 hE4; obtain ⟨g1, g2, P, C, rfl, hE⟩ : ∃ g1 g2 P C, e = .returned (.agg #[.int .i64 D.now, .slice (some ⟨g1, 0, none⟩) 8 8, .slice (some ⟨g2, 0, none⟩) 8 8]) ∧ Hid (OW w1.heap.size g1 g2 (rows16 D) P C w4 ∧ Blw w1 w4) := hE4) | fail)
        clear HGD hd hwr
        have hb3 := hbw1.size
        have hbw4 := hbw1.trans hE.out.2
        have hba : Blw w4 (w4.alloc (.cells #[.int .i64 D.now, .slice (some ⟨g1, 0, none⟩) 8 8, .slice (some ⟨g2, 0, none⟩) 8 8] 25)) := (Blw.refl _).alloc _
        have HZ : Hid (Row (w4.alloc (.cells #[.int .i64 D.now, .slice (some ⟨g1, 0, none⟩) 8 8, .slice (some ⟨g2, 0, none⟩) 8 8] 25)) w4.heap.size 3 (t3 (.int .i64 D.now) (.slice (some ⟨g1, 0, none⟩) 8 8) (.slice (some ⟨g2, 0, none⟩) 8 8)) ∧ Ty (w4.alloc (.cells #[.int .i64 D.now, .slice (some ⟨g1, 0, none⟩) 8 8, .slice (some ⟨g2, 0, none⟩) 8 8] 25)) w4.heap.size 25) := ⟨box3 w4 _ _ _ 25, ⟨_, heap_alloc_new w4 _⟩⟩
        have HO : Hid (OW w1.heap.size g1 g2 (rows16 D) P C (w4.alloc (.cells #[.int .i64 D.now, .slice (some ⟨g1, 0, none⟩) 8 8, .slice (some ⟨g2, 0, none⟩) 8 8] 25)) ∧ g1 < w4.heap.size ∧ g2 < w4.heap.size ∧ W0.heap.size ≤ w1.heap.size ∧ W0.heap.size ≤ g1 ∧ W0.heap.size ≤ g2 ∧ w1.heap.size ≤ w4.heap.size) := ⟨hE.out.1.blw hba, hE.out.1.n.lt, hE.out.1.f.lt, hb3, by have h5 := hE.out.1.lo1; omega, by have h5 := hE.out.1.lo2; omega, hE.out.2.size⟩
        have HB5 : Hid (Blw W0 (w4.alloc (.cells #[.int .i64 D.now, .slice (some ⟨g1, 0, none⟩) 8 8, .slice (some ⟨g2, 0, none⟩) 8 8] 25))) := hbw4.trans hba
        have HTR : Hid (TR [] (rows16 D)) := G.out.g.tr G.out.now.1 G.out.now.2
        have HSZ5 : Hid ((w4.alloc (.cells #[.int .i64 D.now, .slice (some ⟨g1, 0, none⟩) 8 8, .slice (some ⟨g2, 0, none⟩) 8 8] 25)).heap.size = w4.heap.size + 1) := World.size_alloc ..
        have HRO : Hid (∀ k, 16 ≤ k → rows16 D k = []) := fun k hk => rows16_out D k hk
        obtain ⟨zb, hzb⟩ : ∃ zb, w4.heap.size = zb := ⟨_, rfl⟩
        rw [hzb] at HZ HO HSZ5
        have hwo : w1.heap.size ≤ zb := by have h5 := HO.out; omega
        generalize w4.alloc (.cells #[.int .i64 D.now, .slice (some ⟨g1, 0, none⟩) 8 8, .slice (some ⟨g2, 0, none⟩) 8 8] 25) = W5 at *
        rw [hzb]
        clear hE hba hzb hbw4 hb3 HOW HAL HHA hall2
        obtain ⟨R0, hR0⟩ : ∃ x, rows16 D = x := ⟨_, rfl⟩
        have HR00 : Hid (rows16 D = R0) := hR0
        rw [hR0] at HTR HO HRO
        clear hR0
        obtain ⟨T, rfl⟩ : ∃ T : Nat, t = (T : Int) := ⟨t.toNat, by have h5 := I1.out; omega⟩
        have hT100 : T ≤ 100 := by have h5 := I1.out; omega
        have HI0 : Hid (OW w1.heap.size g1 g2 R0 P C W5 ∧ Row W5 zb 3 (t3 (.int .i64 D.now) (.slice (some ⟨g1, 0, none⟩) 8 8) (.slice (some ⟨g2, 0, none⟩) 8 8)) ∧ Ty W5 zb 25 ∧ Blw W0 W5) := ⟨HO.out.1, HZ.out.1, HZ.out.2, HB5.out⟩
        have HN : Hid (g1 < zb ∧ g2 < zb ∧ W0.heap.size ≤ w1.heap.size ∧ W0.heap.size ≤ g1 ∧ W0.heap.size ≤ g2 ∧ w1.heap.size ≤ zb ∧ W5.heap.size = zb + 1) := ⟨HO.out.2.1, HO.out.2.2.1, HO.out.2.2.2.1, HO.out.2.2.2.2.1, HO.out.2.2.2.2.2.1, HO.out.2.2.2.2.2.2, HSZ5.out⟩
        clear HO HZ HB5 HSZ5 hwo
        go_upto_region 5 with fail
        go_loopw [1, 8] (fun s1 s8 wr => ∃ (j r : Nat) (P : Nat → Option Addr) (C : Nat → Nat) (ao : Option Addr) (c m : Nat), j + r = T ∧ s1 = .int .i64 r ∧ s8 = .slice ao m c ∧ Hid (m = (runI D.now R0 j).length ∧ OW w1.heap.size g1 g2 (runR D.now R0 j) P C wr ∧ Row wr zb 3 (t3 (.int .i64 (D.now + j)) (.slice (some ⟨g1, 0, none⟩) 8 8) (.slice (some ⟨g2, 0, none⟩) 8 8)) ∧ Ty wr zb 25 ∧ BufI (fun b => zb < b) wr (.slice ao m c) m (gi (runI D.now R0 j)) ∧ Blw W0 wr ∧ W5.heap.size ≤ wr.heap.size)) (fun s1 _ _ => (intOf s1).toNat)
        case atStart => exact ⟨0, T, P, C, none, 0, 0, by omega, rfl, rfl, rfl, HI0.out.1, by have h5 := HI0.out.2.1; rw [show D.now = D.now + ((0 : Nat) : Int) by omega] at h5; exact h5, HI0.out.2.2.1, Buf.nil _ _ _ _ _, HI0.out.2.2.2, Nat.le_refl _⟩
        case round =>
          clear HI0
          obtain ⟨j, r, P, C, ao, c, m, hjr, rfl, rfl, hI⟩ := hrel
          by_cases hlt : 0 < r
          · have hlt' : (0 : Int) < r := by omega
            have hwr1 : IntKind.i64.wrap ((r : Int) - 1) = ((r - 1 : Nat) : Int) := by rw [IntKind.wrap_i64]; omega
            have htr := HTR.out.run D.now j
            have hn9 := G.out.now
            have hls : w1.heap.size ≤ wr.heap.size := by have h5 := HN.out; have h6 := hI.out.2.2.2.2.2.2; omega
            have HTK : Hid (Calls Try.prog 54 #[.agg #[.int .i64 (D.now + j), .slice (some ⟨g1, 0, none⟩) 8 8, .slice (some ⟨g2, 0, none⟩) 8 8]] wr (STickPost w1.heap.size g1 g2 (D.now + j + 1) (runR D.now R0 j) wr)) := specTick_any _ _ _ _ _ _ _ _ hI.out.2.1 hls htr (by omega) (by have h5 := I3.out; omega)
            have HLI : Hid ((runI D.now R0 j).length ≤ 20 * j ∧ (tickIds (D.now + j + 1) (runR D.now R0 j)).length ≤ 20) := ⟨HTR.out.runI D.now j, htr.ids _⟩
            obtain ⟨z0, z1, z2⟩ := get3 hI.out.2.2.1
            clear htr hn9 hls
            go_wp2_with fail
            clear z0 z1 z2
            refine HTK.out.mono ?_
            rintro e w5 ⟨a5, c5, m5, rfl, hE⟩
            obtain ⟨hm5, hi5, ⟨P', C', hW5⟩, hmo5⟩ := hE.out
            obtain ⟨hm0, hW0, hz0, hty0, hB0, hbl0, hsz0⟩ := hI.out
            have hn := HN.out
            have hal : Blw w5 (w5.alloc (.cells #[.int .i64 (D.now + j + 1), .slice (some ⟨g1, 0, none⟩) 8 8, .slice (some ⟨g2, 0, none⟩) 8 8] 25)) := (Blw.refl _).alloc _
            obtain ⟨y0, y1, y2⟩ := get3 (box3 w5 (.int .i64 (D.now + j + 1)) (.slice (some ⟨g1, 0, none⟩) 8 8) (.slice (some ⟨g2, 0, none⟩) 8 8) 25)
            have hz6 := (hz0.mod hmo5 (fun e => by omega)).blw hal
            have hty6 := (hty0.mod hmo5 (fun e => by omega)).blw hal
            obtain ⟨e0, e1, e2⟩ := get3 hz6
            have hf0 := hz6.frozen 0
            have hf1 := hz6.frozen 1
            have hf2 := hz6.frozen 2
            have hm6 : Mod (fun b => b = g1 ∨ b = g2) wr (w5.alloc (.cells #[.int .i64 (D.now + j + 1), .slice (some ⟨g1, 0, none⟩) 8 8, .slice (some ⟨g2, 0, none⟩) 8 8] 25)) := hmo5.trans (hal.mod _)
            have HX6 : Hid (OW w1.heap.size g1 g2 (tickR (D.now + j + 1) (runR D.now R0 j)) P' C' (w5.alloc (.cells #[.int .i64 (D.now + j + 1), .slice (some ⟨g1, 0, none⟩) 8 8, .slice (some ⟨g2, 0, none⟩) 8 8] 25)) ∧ Row (w5.alloc (.cells #[.int .i64 (D.now + j + 1), .slice (some ⟨g1, 0, none⟩) 8 8, .slice (some ⟨g2, 0, none⟩) 8 8] 25)) zb 3 (t3 (.int .i64 (D.now + j)) (.slice (some ⟨g1, 0, none⟩) 8 8) (.slice (some ⟨g2, 0, none⟩) 8 8)) ∧ Ty (w5.alloc (.cells #[.int .i64 (D.now + j + 1), .slice (some ⟨g1, 0, none⟩) 8 8, .slice (some ⟨g2, 0, none⟩) 8 8] 25)) zb 25 ∧ BufI (fun b => zb < b) (w5.alloc (.cells #[.int .i64 (D.now + j + 1), .slice (some ⟨g1, 0, none⟩) 8 8, .slice (some ⟨g2, 0, none⟩) 8 8] 25)) (.slice ao m c) m (gi (runI D.now R0 j)) ∧ IntsAt (fun b => zb < b) (w5.alloc (.cells #[.int .i64 (D.now + j + 1), .slice (some ⟨g1, 0, none⟩) 8 8, .slice (some ⟨g2, 0, none⟩) 8 8] 25)) a5 m5 (gi (tickIds (D.now + j + 1) (runR D.now R0 j))) ∧ Blw W0 (w5.alloc (.cells #[.int .i64 (D.now + j + 1), .slice (some ⟨g1, 0, none⟩) 8 8, .slice (some ⟨g2, 0, none⟩) 8 8] 25)) ∧ W5.heap.size ≤ (w5.alloc (.cells #[.int .i64 (D.now + j + 1), .slice (some ⟨g1, 0, none⟩) 8 8, .slice (some ⟨g2, 0, none⟩) 8 8] 25)).heap.size ∧ m = (runI D.now R0 j).length ∧ m5 = (tickIds (D.now + j + 1) (runR D.now R0 j)).length) :=
              ⟨hW5.blw hal, hz6, hty6, Buf.mod hB0 hm6 (fun b hb e => by omega), (hi5.mono (fun b hb => by omega)).blw hal, Mod.blw hbl0 hm6 (fun i e => by omega), Nat.le_trans hsz0 hm6.size, hm0, hm5⟩
            clear hE hm5 hi5 hW5 hmo5 hm0 hW0 hz0 hty0 hB0 hbl0 hsz0 hI HTK hal hz6 hty6 hm6 hn
            go_upto_region 8 with fail
            generalize w5.alloc (.cells #[.int .i64 (D.now + j + 1), .slice (some ⟨g1, 0, none⟩) 8 8, .slice (some ⟨g2, 0, none⟩) 8 8] 25) = W6 at *
            go_upto_region 9 with fail
            clear y0 y1 y2 hf0 hf1 hf2 e0 e1 e2
            have HX7 : Hid (OW w1.heap.size g1 g2 (tickR (D.now + j + 1) (runR D.now R0 j)) P' C' (((W6.setCell ⟨zb, 0, none⟩ (.int .i64 (D.now + j + 1))).setCell ⟨zb, 1, none⟩ (.slice (some ⟨g1, 0, none⟩) 8 8)).setCell ⟨zb, 2, none⟩ (.slice (some ⟨g2, 0, none⟩) 8 8)) ∧ Row (((W6.setCell ⟨zb, 0, none⟩ (.int .i64 (D.now + j + 1))).setCell ⟨zb, 1, none⟩ (.slice (some ⟨g1, 0, none⟩) 8 8)).setCell ⟨zb, 2, none⟩ (.slice (some ⟨g2, 0, none⟩) 8 8)) zb 3 (t3 (.int .i64 (D.now + j + 1)) (.slice (some ⟨g1, 0, none⟩) 8 8) (.slice (some ⟨g2, 0, none⟩) 8 8)) ∧ Ty (((W6.setCell ⟨zb, 0, none⟩ (.int .i64 (D.now + j + 1))).setCell ⟨zb, 1, none⟩ (.slice (some ⟨g1, 0, none⟩) 8 8)).setCell ⟨zb, 2, none⟩ (.slice (some ⟨g2, 0, none⟩) 8 8)) zb 25 ∧ BufI (fun b => zb < b) (((W6.setCell ⟨zb, 0, none⟩ (.int .i64 (D.now + j + 1))).setCell ⟨zb, 1, none⟩ (.slice (some ⟨g1, 0, none⟩) 8 8)).setCell ⟨zb, 2, none⟩ (.slice (some ⟨g2, 0, none⟩) 8 8)) (.slice ao m c) m (gi (runI D.now R0 j)) ∧ IntsAt (fun b => zb < b) (((W6.setCell ⟨zb, 0, none⟩ (.int .i64 (D.now + j + 1))).setCell ⟨zb, 1, none⟩ (.slice (some ⟨g1, 0, none⟩) 8 8)).setCell ⟨zb, 2, none⟩ (.slice (some ⟨g2, 0, none⟩) 8 8)) a5 m5 (gi (tickIds (D.now + j + 1) (runR D.now R0 j))) ∧ Blw W0 (((W6.setCell ⟨zb, 0, none⟩ (.int .i64 (D.now + j + 1))).setCell ⟨zb, 1, none⟩ (.slice (some ⟨g1, 0, none⟩) 8 8)).setCell ⟨zb, 2, none⟩ (.slice (some ⟨g2, 0, none⟩) 8 8)) ∧ W5.heap.size ≤ (((W6.setCell ⟨zb, 0, none⟩ (.int .i64 (D.now + j + 1))).setCell ⟨zb, 1, none⟩ (.slice (some ⟨g1, 0, none⟩) 8 8)).setCell ⟨zb, 2, none⟩ (.slice (some ⟨g2, 0, none⟩) 8 8)).heap.size ∧ m = (runI D.now R0 j).length ∧ m5 = (tickIds (D.now + j + 1) (runR D.now R0 j)).length) := by
              obtain ⟨q1, q2, q3, q4, q5, q6, q7, q8, q9⟩ := HX6.out
              have mS := set3_mod (X := fun b => b = zb) W6 rfl (.int .i64 (D.now + j + 1)) (.slice (some ⟨g1, 0, none⟩) 8 8) (.slice (some ⟨g2, 0, none⟩) 8 8)
              have hn := HN.out
              exact ⟨q1.modY (t := 25) (by decide) mS (fun b e => by subst e; exact ⟨q3, by omega, by omega⟩), set3_2 (set3_1 (set3_0 q2 _) _) _, ((q3.set 0 _).set 1 _).set 2 _, Buf.mod q4 mS (fun b hb e => by omega), q5.mod mS (fun b hb e => by omega), Mod.blw q6 mS (fun i e => by omega), Nat.le_trans q7 mS.size, q8, q9⟩
            generalize ((W6.setCell ⟨zb, 0, none⟩ (.int .i64 (D.now + j + 1))).setCell ⟨zb, 1, none⟩ (.slice (some ⟨g1, 0, none⟩) 8 8)).setCell ⟨zb, 2, none⟩ (.slice (some ⟨g2, 0, none⟩) 8 8) = W7 at *
            obtain ⟨q1, q2, q3, q4, q5, q6, q7, q8, q9⟩ := HX7.out
            obtain ⟨l1, l2⟩ := HLI.out
            obtain ⟨a6, c6, w6, hrun, hB6, hm6⟩ := BufI.append q4 c5 q5 (by omega) 28
            have hx5 : ∀ b, (Value.slice ao m c).ownBlock = some b → zb < b := q4.2
            have HNX : Hid (m + m5 = (runI D.now R0 (j + 1)).length ∧ OW w1.heap.size g1 g2 (runR D.now R0 (j + 1)) P' C' w6 ∧ Row w6 zb 3 (t3 (.int .i64 (D.now + ((j + 1 : Nat) : Int))) (.slice (some ⟨g1, 0, none⟩) 8 8) (.slice (some ⟨g2, 0, none⟩) 8 8)) ∧ Ty w6 zb 25 ∧ BufI (fun b => zb < b) w6 (.slice a6 (m + m5) c6) (m + m5) (gi (runI D.now R0 (j + 1))) ∧ Blw W0 w6 ∧ W5.heap.size ≤ w6.heap.size) := by
              have hn := HN.out
              refine ⟨?_, q1.modY (t := 3) (by decide) hm6 (fun b e => ⟨q4.ty e, ?_, ?_⟩), ?_, q3.mod hm6 (fun e => ?_), (hB6.congr (fun i hi => ?_)).mono (fun b hb => ?_), Mod.blw q6 hm6 (fun i e => ?_), Nat.le_trans q7 hm6.size⟩
              · rw [q8, q9]; simp [runI]
              · have h5 := hx5 b e; omega
              · have h5 := hx5 b e; omega
              · rw [show D.now + ((j + 1 : Nat) : Int) = D.now + j + 1 by omega]
                exact q2.mod hm6 (fun e => by have h5 := hx5 zb e; omega)
              · have h5 := hx5 zb e; omega
              · simp only [ic, icat, runI, gi_app, q8]
              · rcases hb.1 with h6 | h6
                · exact h6
                · omega
              · have h5 := hx5 i e; omega
            clear q1 q2 q3 q4 q5 q6 q7 q8 q9 l1 l2 hB6 hm6 hx5 HX7 HX6 HLI
            go_wp2_with (at_builtin; refine wpList_append_run rfl _ _ 28 rfl _ _ rfl rfl hrun ?_)
            go_roundw
            case rel => exact ⟨j + 1, r - 1, P', C', a6, c6, m + m5, by omega, by first | rfl | (rw [hwr1]) | (congr 1; omega), rfl, HNX.out⟩
            case measure => simp [intOf]; omega
          · obtain rfl : r = 0 := by omega
            obtain rfl : j = T := by omega
            obtain ⟨hm0, hW0, hz0, hty0, hB0, hbl0, hsz0⟩ := hI.out
            have htr := HTR.out.run D.now j
            have hn := HN.out
            obtain ⟨z0, z1, z2⟩ := get3 hz0
            have HR3 : Hid (Row wr Wa.heap.size 3 (t3 (.int .i64 0) (.slice none 0 0) (.slice none 0 0))) := HR1.out.blw hbl0
            have HGO : Hid (Calls Try.prog 53 #[.agg #[.int .i64 (D.now + j), .slice (some ⟨g1, 0, none⟩) 8 8, .slice (some ⟨g2, 0, none⟩) 8 8]] wr fun e w' => ∃ k1 k2 P' C', e = .returned (.agg #[.int .i64 (D.now + j), .slice (some ⟨k1, 0, none⟩) 8 8, .slice (some ⟨k2, 0, none⟩) 8 8]) ∧ w'.cell? ⟨Wa.heap.size, 0, none⟩ = some (.int .i64 0) ∧ w'.cell? ⟨Wa.heap.size, 1, none⟩ = some (.slice none 0 0) ∧ w'.cell? ⟨Wa.heap.size, 2, none⟩ = some (.slice none 0 0) ∧ w'.frozen? ⟨Wa.heap.size, 0, none⟩ = false ∧ w'.frozen? ⟨Wa.heap.size, 1, none⟩ = false ∧ w'.frozen? ⟨Wa.heap.size, 2, none⟩ = false ∧ Hid (OW wr.heap.size k1 k2 (runR D.now R0 j) P' C' w' ∧ Blw wr w' ∧ Row w' Wa.heap.size 3 (t3 (.int .i64 0) (.slice none 0 0) (.slice none 0 0)))) := by
              refine (l11Own_any ⟨some ⟨g1, 0, none⟩, some ⟨g2, 0, none⟩, 8, 8⟩ (D.now + j) (pdn 8 (runR D.now R0 j)) (pdn 8 (fun k => runR D.now R0 j (8 + k))) (runR D.now R0 j) _ wr rfl rfl (hW0.rows (D.now + j) (fun k hk => by have h5 := htr.rowlen hk; omega)) (fun k hk => by have h5 := htr.rowlen hk; omega) (fun k hk => by rw [runR_out _ _ _ hk]; exact HRO.out k hk)).mono ?_
              rintro e w' ⟨k1, k2, P', C', rfl, hE⟩
              have r9 := (HR3.out).blw hE.out.2
              obtain ⟨t0, t1, t2⟩ := get3 r9
              exact ⟨k1, k2, P', C', rfl, t0, t1, t2, r9.frozen 0, r9.frozen 1, r9.frozen 2, hE.out.1, hE.out.2, r9⟩
            clear hm0 hW0 hB0 hbl0 htr hz0 hty0 hsz0 hn a0 a1 a2 b0 b1 b2 f0 f1 f2
            go_wp2_with (first | (go_at_call 53; refine HGO.out.mono ?_; rintro e W2 ⟨k1, k2, P', C', rfl, q0, q1, q2, f0, f1, f2, hE⟩) | fail)
            have r9 := set3_2 (set3_1 (set3_0 hE.out.2.2 (.int .i64 (D.now + j))) (.slice (some ⟨k1, 0, none⟩) 8 8)) (.slice (some ⟨k2, 0, none⟩) 8 8)
            obtain ⟨u0, u1, u2⟩ := get3 r9
            have mS := set3_mod (X := fun b => b = Wa.heap.size) W2 rfl (.int .i64 (D.now + j)) (.slice (some ⟨k1, 0, none⟩) 8 8) (.slice (some ⟨k2, 0, none⟩) 8 8)
            refine bodyPost_ret (v := .tuple #[.agg #[.int .i64 (D.now + j), .slice (some ⟨k1, 0, none⟩) 8 8, .slice (some ⟨k2, 0, none⟩) 8 8], .slice ao m c, .bool true]) (by rw [results_cell_tmp2 rfl]; simp [asAddr, Result.andThen, go_sem, u0, u1, u2]) rfl ?_
            obtain ⟨hm0, hW0, hz0, hty0, hB0, hbl0, hsz0⟩ := hI.out
            have htr := HTR.out.run D.now j
            have hli := HTR.out.runI D.now j
            have hsB := HB.out.2.2.1
            have hle := HB.out.2.1
            have hm5 := mS.size
            have hs0 := hbl0.size
            have hs2 := hE.out.2.1.size
            have hn := HN.out
            have hww := HB.out.1.size
            obtain ⟨ao2, cap2, ee, hown⟩ := BufI.own hB0 (by omega)
            simp only [Value.slice.injEq] at ee
            obtain ⟨rfl, -, rfl⟩ := ee
            have hO9 := (hE.out.1.mod mS (fun b hb e => by omega)).own (D.now + j) (fun k hk => by have h5 := htr.rowlen hk; omega)
            have hblt : ∀ b, ao = some ⟨b, 0, none⟩ → b < wr.heap.size := fun b e => (hB0.ty (b := b) (by rw [e]; simp [Value.ownBlock])).lt
            have htl := htr.len
            have hown9 := (hown.exact.blw hE.out.2.1).mod mS (fun b hb e => by have h5 := hb.1; omega)
            refine ⟨⟨some ⟨k1, 0, none⟩, some ⟨k2, 0, none⟩, 8, 8⟩, wd8 (D.now + j) (runR D.now R0 j), ao, c, m, runI D.now R0 j, true, rfl, hm0, Or.inl ⟨⟨G.out, I1.out.1, I1.out.2, I3.out⟩, by rw [HR00.out]; rfl, by rw [HR00.out]; rfl, rfl⟩, small8 (by simp only [List.nil_append] at htl; omega), by omega, hO9.mono (fun b hb => ⟨⟨by omega, hb.2⟩, fun e => by have h5 := hblt b e; omega⟩), ?_, Mod.blw ((HB.out.1.trans hbl0).trans hE.out.2.1) mS (fun i e => by omega), fun _ => ⟨k1, k2, _, _, _, rfl, rfl, (hE.out.1.mod mS (fun b hb e => by omega)).lower (by omega)⟩⟩
            rw [← hm0]
            exact hown9.mono (fun b hb => ⟨⟨by have h5 := hb.1; omega, by have h5 := hblt b hb.2; omega⟩, hb.2⟩)
      · have I3 : Hid (¬ D.now + t ≤ 1000) := i3
        have hd : decide (D.now + t > 1000) = true := decide_eq_true (by omega)
        clear i1 i3 hgn
        go_enter Try.func14, Try.ntmps14
        go_upto_region 1 with fail
        try simp only [hWa, hW0]
        clear hWa hW0 r0 ra r1
        go_wp2_with (first | (go_at_call 38; refine HGD.out.mono ?_; rintro e w1 ⟨q1, rfl, hq1, hbw1⟩; obtain rfl : q1 = true := hq1.2 G.out; clear hq1) | (go_at_call_of 52 (Value.int .i64 (100 : Int)); refine (l1In_yes t 0 100 _ I1.out.1 I1.out.2).mono ?_; rintro e w' ⟨rfl, hw⟩; replace hw := hw.symm; subst hw) | fail)
        have hBX := hbw1
        have r9 := set3_2 (set3_1 (set3_0 (HR1.out.blw hBX) (.int .i64 0)) (.slice none 0 0)) (.slice none 0 0)
        obtain ⟨u0, u1, u2⟩ := get3 r9
        have mS := set3_mod (X := fun b => b = Wa.heap.size) w1 rfl (.int .i64 0) (.slice none 0 0) (.slice none 0 0)
        clear a0 a1 a2 b0 b1 b2 f0 f1 f2
        refine bodyPost_ret (v := .tuple #[.agg #[.int .i64 0, .slice none 0 0, .slice none 0 0], .slice none 0 0, .bool false]) (by rw [results_cell_tmp2 rfl]; simp [asAddr, Result.andThen, go_sem, u0, u1, u2]) rfl ?_
        have hle := HB.out.2.1
        exact ⟨WV.zero, WD.zero, none, 0, 0, [], false, rfl, rfl, Or.inr ⟨fun hp => by have h5 := I3.out; have h6 := hp.2.2.2; omega, rfl, rfl, rfl⟩, small_zero, by simp, WOwn.zero _ _, IntsOwn.nil _ _ _ _, Mod.blw (HB.out.1.trans hBX) mS (fun i e => by omega), fun h => by cases h⟩
    · have I1 : Hid (¬ (0 ≤ t ∧ t ≤ 100)) := i1
      clear i1 hgn
      go_enter Try.func14, Try.ntmps14
      go_upto_region 1 with fail
      try simp only [hWa, hW0]
      clear hWa hW0 r0 ra r1
      go_wp2_with (first | (go_at_call 38; refine HGD.out.mono ?_; rintro e w1 ⟨q1, rfl, hq1, hbw1⟩; obtain rfl : q1 = true := hq1.2 G.out; clear hq1) | (go_at_call_of 52 (Value.int .i64 (100 : Int)); refine (l1In_no t 0 100 _ I1.out).mono ?_; rintro e w' ⟨rfl, hw⟩; replace hw := hw.symm; subst hw) | fail)
      have hBX := hbw1
      have r9 := set3_2 (set3_1 (set3_0 (HR1.out.blw hBX) (.int .i64 0)) (.slice none 0 0)) (.slice none 0 0)
      obtain ⟨u0, u1, u2⟩ := get3 r9
      have mS := set3_mod (X := fun b => b = Wa.heap.size) w1 rfl (.int .i64 0) (.slice none 0 0) (.slice none 0 0)
      clear a0 a1 a2 b0 b1 b2 f0 f1 f2
      refine bodyPost_ret (v := .tuple #[.agg #[.int .i64 0, .slice none 0 0, .slice none 0 0], .slice none 0 0, .bool false]) (by rw [results_cell_tmp2 rfl]; simp [asAddr, Result.andThen, go_sem, u0, u1, u2]) rfl ?_
      have hle := HB.out.2.1
      exact ⟨WV.zero, WD.zero, none, 0, 0, [], false, rfl, rfl, Or.inr ⟨fun hp => I1.out ⟨hp.2.1, hp.2.2.1⟩, rfl, rfl, rfl⟩, small_zero, by simp, WOwn.zero _ _, IntsOwn.nil _ _ _ _, Mod.blw (HB.out.1.trans hBX) mS (fun i e => by omega), fun h => by cases h⟩
  · have NG : Hid (¬ GoodD D) := hg
    clear hg
    go_enter Try.func14, Try.ntmps14
    go_upto_region 1 with fail
    try simp only [hWa, hW0]
    clear hWa hW0 r0 ra r1
    go_wp2_with (first | (go_at_call 38; refine HGD.out.mono ?_; rintro e w1 ⟨q1, rfl, hq1, hbw1⟩; obtain rfl : q1 = false := (by cases q1; rfl; exact absurd (hq1.1 rfl) NG.out); clear hq1) | fail)
    have hBX := hbw1
    have r9 := set3_2 (set3_1 (set3_0 (HR1.out.blw hBX) (.int .i64 0)) (.slice none 0 0)) (.slice none 0 0)
    obtain ⟨u0, u1, u2⟩ := get3 r9
    have mS := set3_mod (X := fun b => b = Wa.heap.size) w1 rfl (.int .i64 0) (.slice none 0 0) (.slice none 0 0)
    clear a0 a1 a2 b0 b1 b2 f0 f1 f2
    refine bodyPost_ret (v := .tuple #[.agg #[.int .i64 0, .slice none 0 0, .slice none 0 0], .slice none 0 0, .bool false]) (by rw [results_cell_tmp2 rfl]; simp [asAddr, Result.andThen, go_sem, u0, u1, u2]) rfl ?_
    have hle := HB.out.2.1
    exact ⟨WV.zero, WD.zero, none, 0, 0, [], false, rfl, rfl, Or.inr ⟨fun hp => NG.out hp.1, rfl, rfl, rfl⟩, small_zero, by simp, WOwn.zero _ _, IntsOwn.nil _ _ _ _, Mod.blw (HB.out.1.trans hBX) mS (fun i e => by omega), fun h => by cases h⟩
set_option maxRecDepth 10000 in
set_option maxHeartbeats 1600000 in
theorem specNewO_any (k : Int) (w : World) : Calls Try.prog 33 #[.int .i64 k] w (GivesO (newOut k) w) := by
  have hb0 : Blw w (w.alloc (.cells #[.int .i64 0, .slice none 0 0, .slice none 0 0] 25)) := (Blw.refl _).alloc _
  have r0 := box3 w (.int .i64 0) (.slice none 0 0) (.slice none 0 0) 25
  by_cases a0 : 0 ≤ k ∧ k ≤ 1000
  · have A0 : Hid (0 ≤ k ∧ k ≤ 1000) := a0
    clear a0
    go_enter Try.func33, Try.ntmps33
    go_wp2_with fail
    have HB : Hid (Blw w (w.alloc (.cells #[.int .i64 0, .slice none 0 0, .slice none 0 0] 25))) := hb0
    have HR : Hid (Row (w.alloc (.cells #[.int .i64 0, .slice none 0 0, .slice none 0 0] 25)) w.heap.size 3 (t3 (.int .i64 0) (.slice none 0 0) (.slice none 0 0))) := r0
    clear hb0 r0
    generalize w.alloc (.cells #[.int .i64 0, .slice none 0 0, .slice none 0 0] 25) = W0 at *
    go_upto_region 3 with (first | (go_at_call 52; refine (l1In_yes _ _ _ _ A0.out.1 A0.out.2).mono ?_; rintro e w' ⟨rfl, hw⟩; replace hw := hw.symm; subst hw) | fail)
    have e1 : Blw W0 (W0.alloc (.cells (madeCells #[.slice none 0 0] 8) 31)) := (Blw.refl _).alloc _
    have o1 := empty_own W0
    have hz := HR.out.lt
    obtain ⟨W1, hW1⟩ : ∃ W1, W0.alloc (.cells (madeCells #[.slice none 0 0] 8) 31) = W1 := ⟨_, rfl⟩
    have s1 : W1.heap.size = W0.heap.size + 1 := by rw [← hW1, World.size_alloc]
    have rm1 : Row W1 W0.heap.size 8 (fun _ => .slice none 0 0) := by rw [← hW1]; exact Row.made W0 (.slice none 0 0) 8 31
    have e2 : Blw W1 (W1.alloc (.cells (madeCells #[.slice none 0 0] 8) 31)) := (Blw.refl _).alloc _
    have o2 := empty_own W1
    obtain ⟨W2, hW2⟩ : ∃ W2, W1.alloc (.cells (madeCells #[.slice none 0 0] 8) 31) = W2 := ⟨_, rfl⟩
    have s2 : W2.heap.size = W1.heap.size + 1 := by rw [← hW2, World.size_alloc]
    have rm2 : Row W2 W1.heap.size 8 (fun _ => .slice none 0 0) := by rw [← hW2]; exact Row.made W1 (.slice none 0 0) 8 31
    rw [hW1] at e1 o1
    rw [hW2] at e2 o2
    have R2 := (HR.out.blw e1).blw e2
    have HRM : Hid (Row W2 W0.heap.size 8 (fun _ => .slice none 0 0) ∧ Row W2 W1.heap.size 8 (fun _ => .slice none 0 0)) := ⟨rm1.blw e2, rm2⟩
    clear rm1 rm2
    obtain ⟨q0, q1, q2⟩ := get3 R2
    have f0 := R2.frozen 0
    have f1 := R2.frozen 1
    have f2 := R2.frozen 2
    have HO : Hid (PSOwn (fun x => x = W0.heap.size) W2 (some ⟨W0.heap.size, 0, none⟩) (pdn 8 noR) ∧ PSOwn (fun x => x = W1.heap.size) W2 (some ⟨W1.heap.size, 0, none⟩) (pdn 8 noR) ∧ Blw W0 W2 ∧ Row W2 w.heap.size 3 (t3 (.int .i64 0) (.slice none 0 0) (.slice none 0 0)) ∧ w.heap.size < W0.heap.size) := ⟨o1.blw e2, o2, e1.trans e2, R2, hz⟩
    have HS : Hid (W1.heap.size = W0.heap.size + 1 ∧ W2.heap.size = W1.heap.size + 1) := ⟨s1, s2⟩
    clear e1 e2 o1 o2 hz s1 s2 R2
    go_wp2_with (first | (go_at_call 66; refine (empty_any _).mono ?_; rintro e w' ⟨rfl, hw⟩; first | (rw [hW1] at hw; replace hw := hw.symm; subst hw; clear hW1) | (rw [hW2] at hw; replace hw := hw.symm; subst hw; clear hW2)) | fail)
    have r9 := set3_2 (set3_1 (set3_0 HO.out.2.2.2.1 (.int .i64 k)) (.slice (some ⟨W0.heap.size, 0, none⟩) 8 8)) (.slice (some ⟨W1.heap.size, 0, none⟩) 8 8)
    obtain ⟨u0, u1, u2⟩ := get3 r9
    have mS := set3_mod (X := fun b => b = w.heap.size) W2 rfl (.int .i64 k) (.slice (some ⟨W0.heap.size, 0, none⟩) 8 8) (.slice (some ⟨W1.heap.size, 0, none⟩) 8 8)
    refine bodyPost_ret (v := .tuple #[.agg #[.int .i64 k, .slice (some ⟨W0.heap.size, 0, none⟩) 8 8, .slice (some ⟨W1.heap.size, 0, none⟩) 8 8], .bool true]) (by rw [results_cell_tmp rfl]; simp [asAddr, Result.andThen, go_sem, u0, u1, u2]) rfl ?_
    obtain ⟨o1, o2, b2, -, hz⟩ := HO.out
    obtain ⟨s1, s2⟩ := HS.out
    have hsB := HB.out.size
    have hm5 := mS.size
    refine ⟨⟨some ⟨W0.heap.size, 0, none⟩, some ⟨W1.heap.size, 0, none⟩, 8, 8⟩, wd8 k noR, true, rfl, by unfold newOut; rw [if_pos A0.out]; exact ⟨rfl, rfl⟩, small8 (by decide), ⟨fun x => x = W0.heap.size, fun x => x = W1.heap.size, fun x hx => ⟨⟨by omega, by omega⟩, by omega⟩, fun x hx => ⟨by omega, by omega⟩, o1.mod mS (fun x hx e => by omega), o2.mod mS (fun x hx e => by omega)⟩, Mod.blw (HB.out.trans b2) mS (fun i e => by omega), fun _ => ⟨W0.heap.size, W1.heap.size, noR, noP, noC, rfl, rfl, ⟨HRM.out.1.mod mS (by omega), HRM.out.2.mod mS (by omega), Go.Proofs.Ytkmkidahaagbpaa.HR.none _ _, fun k _ e => (by cases e), fun k _ e => (by cases e), by omega, by omega, by omega⟩⟩⟩
  · have A0 : Hid (¬ (0 ≤ k ∧ k ≤ 1000)) := a0
    clear a0
    go_enter Try.func33, Try.ntmps33
    go_wp2_with fail
    have HB : Hid (Blw w (w.alloc (.cells #[.int .i64 0, .slice none 0 0, .slice none 0 0] 25))) := hb0
    have HR : Hid (Row (w.alloc (.cells #[.int .i64 0, .slice none 0 0, .slice none 0 0] 25)) w.heap.size 3 (t3 (.int .i64 0) (.slice none 0 0) (.slice none 0 0))) := r0
    obtain ⟨q0, q1, q2⟩ := get3 r0
    have f0 := r0.frozen 0
    have f1 := r0.frozen 1
    have f2 := r0.frozen 2
    clear hb0 r0
    generalize w.alloc (.cells #[.int .i64 0, .slice none 0 0, .slice none 0 0] 25) = W0 at *
    go_wp2_with (first | (go_at_call 52; refine (l1In_no _ _ _ _ A0.out).mono ?_; rintro e w' ⟨rfl, hw⟩; replace hw := hw.symm; subst hw) | fail)
    have r9 := set3_2 (set3_1 (set3_0 HR.out (.int .i64 0)) (.slice none 0 0)) (.slice none 0 0)
    obtain ⟨u0, u1, u2⟩ := get3 r9
    have mS := set3_mod (X := fun b => b = w.heap.size) W0 rfl (.int .i64 0) (.slice none 0 0) (.slice none 0 0)
    refine bodyPost_ret (v := .tuple #[.agg #[.int .i64 0, .slice none 0 0, .slice none 0 0], .bool false]) (by rw [results_cell_tmp rfl]; simp [asAddr, Result.andThen, go_sem, u0, u1, u2]) rfl ?_
    exact ⟨WV.zero, WD.zero, false, rfl, by unfold newOut; rw [if_neg A0.out]; exact ⟨rfl, rfl⟩, small_zero, WOwn.zero _ _, Mod.blw HB.out mS (fun i e => by omega), fun h => by cases h⟩
end Go.Proofs.Ytkmkidahaagbpaa
