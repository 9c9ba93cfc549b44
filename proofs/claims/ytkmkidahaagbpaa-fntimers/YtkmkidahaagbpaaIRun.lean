/- RunWheel of the program. -/
import Derived.Test.YtkmkidahaagbpaaISet
import Derived.Test.YtkmkidahaagbpaaTi
import Derived.Test.YtkmkidahaagbpaaGox
namespace Go.Proofs.Ytkmkidahaagbpaa
open Go.RowKit
set_option linter.unusedSimpArgs false
set_option linter.unusedVariables false
theorem results_cell_tmp2 {fn : Func} {p u q : Tmp} {ty : TypeId} (h : fn.results = #[.cell p ty, .tmp u, .tmp q]) (tmps : Array Value) (P : Program) (w : World) :
    (results fn tmps).run P w =
      ((asAddr (tmps.getD p undef)).run P w).andThen fun a w₁ => ((loadVar ty a).run P w₁).andThen fun v w₂ => .ok (.tuple #[v, tmps.getD u undef, tmps.getD q undef]) w₂ := by
  simp only [results, h]
  simp [Sem.run_bind, Result.andThen]
theorem IntsOwn.exact {X : Nat → Prop} {w : World} {ao : Option Addr} {n : Nat} {f : Nat → Int} (h : IntsOwn X w ao n f) : IntsOwn (fun b => X b ∧ ao = some ⟨b, 0, none⟩) w ao n f :=
  ⟨h.1, fun h0 => let ⟨b, hx, e, r⟩ := h.2 h0; ⟨b, ⟨hx, e⟩, e, r⟩⟩
set_option maxRecDepth 10000 in
set_option maxHeartbeats 3200000 in
theorem implRun_any (v : WV) (D : WD) (t : Int) (Y : Nat → Prop) (w : World) (h : WAt Y w v D) (hY : ∀ b, Y b → b < w.heap.size) (hwf : D.wf) : Calls Try.prog 13 #[v.val D, .int .i64 t] w (GivesWI (runOut D t) w) := by
  have hb0 : Blw w (w.alloc (.cells #[.int .i64 D.now, .slice v.a1 D.N.n v.c1, .slice v.a2 D.F.n v.c2] 25)) := (Blw.refl _).alloc _
  have r0 := box3 w (.int .i64 D.now) (.slice v.a1 D.N.n v.c1) (.slice v.a2 D.F.n v.c2) 25
  obtain ⟨Wa, hWa⟩ : ∃ Wa, w.alloc (.cells #[.int .i64 D.now, .slice v.a1 D.N.n v.c1, .slice v.a2 D.F.n v.c2] 25) = Wa := ⟨_, rfl⟩
  rw [hWa] at hb0 r0
  have hsa : Wa.heap.size = w.heap.size + 1 := by rw [← hWa, World.size_alloc]
  have hb1 : Blw Wa (Wa.alloc (.cells #[.int .i64 0, .slice none 0 0, .slice none 0 0] 25)) := (Blw.refl _).alloc _
  have r1 := box3 Wa (.int .i64 0) (.slice none 0 0) (.slice none 0 0) 25
  have ra := r0.blw hb1
  obtain ⟨W0, hW0⟩ : ∃ W0, Wa.alloc (.cells #[.int .i64 0, .slice none 0 0, .slice none 0 0] 25) = W0 := ⟨_, rfl⟩
  rw [hW0] at hb1 r1 ra
  have HHO : Hid (Calls Try.prog 48 #[v.val D] W0 (HoldPost W0 D)) :=
    hold_any v D Y _ ((h.blw hb0).blw hb1) (fun b hb => by have := hY b hb; have := (hb0.trans hb1).size; omega) hwf
  have HB : Hid (Blw w W0 ∧ w.heap.size ≤ Wa.heap.size ∧ Wa.heap.size < W0.heap.size) := ⟨hb0.trans hb1, by omega, r1.lt⟩
  have HR1 : Hid (Row W0 Wa.heap.size 3 (t3 (.int .i64 0) (.slice none 0 0) (.slice none 0 0))) := r1
  clear h hb0 hb1 hsa
  by_cases hg : GoodD D
  · by_cases h1 : t < 0
    · have hd1 : decide (t < 0) = true := decide_eq_true h1
      have G : Hid (GoodD D ∧ t < 0) := ⟨hg, h1⟩
      clear hg h1
      go_enter Try.func13, Try.ntmps13
      go_upto_region 1 with fail
      try simp only [hWa, hW0]
      obtain ⟨c0, c1, c2⟩ := get3 ra
      clear hWa hW0 r0 ra r1
      go_upto_region 2 with (first | (go_at_call 48; refine HHO.out.mono ?_; rintro e w1 ⟨now, R, P, C, b, rfl, hE1⟩) | (refine alloc_big rfl 71 rfl 17 hz0 zeroH ?_; intro w2 RZ2 hb2 hz2) | (refine store_big rfl 71 _ _ rfl _ 17 (hcell now R P C) hz0 rfl rfl wdH RZ2 (fun i _ => hcell_one _ _ _ _ _) ?_; intro wz RZ9 hm9 hs9) | fail)
      obtain ⟨hbo, hbt, hbl⟩ := hE1
      clear c0 c1 c2 HHO
      have hbz : Blw W0 wz := Mod.blw (hbl.trans hb2) hm9 (fun i e => by have := hbl.size; omega)
      obtain rfl : b = true := hbo.2 G.out.1
      obtain ⟨e1, e2, hR⟩ := hbt rfl
      subst e1 e2
      have HWz : Hid (HW W0.heap.size w1.heap.size D.now (rows16 D) P C wz) := ((hR.blw hb2).mod hm9 (fun k b hk e hh => by have h5 := hR.lt hk e; omega)).box (fun k b hk e => by have h5 := hR.lt hk e; omega) RZ9
      have HBz : Hid (Blw w wz ∧ W0.heap.size ≤ wz.heap.size) := ⟨HB.out.1.trans hbz, hbz.size⟩
      have HRz : Hid (Row wz Wa.heap.size 3 (t3 (.int .i64 0) (.slice none 0 0) (.slice none 0 0))) := HR1.out.blw hbz
      have HS1 : Hid (W0.heap.size ≤ w1.heap.size) := hbl.size
      have HBW : Hid (Blw W0 wz) := hbz
      clear hR hbo hbt hbl RZ2 hb2 hz2 RZ9 hm9 hs9 hbz
      obtain ⟨q0, q1, q2⟩ := get3 (HRz.out)
      have f0 := (HRz.out).frozen 0
      have f1 := (HRz.out).frozen 1
      have f2 := (HRz.out).frozen 2
      go_wp2_with fail
      have r9 := set3_2 (set3_1 (set3_0 (HRz.out) (.int .i64 0)) (.slice none 0 0)) (.slice none 0 0)
      obtain ⟨u0, u1, u2⟩ := get3 r9
      have mS := set3_mod (X := fun b => b = Wa.heap.size) wz rfl (.int .i64 0) (.slice none 0 0) (.slice none 0 0)
      refine bodyPost_ret (v := .tuple #[.agg #[.int .i64 0, .slice none 0 0, .slice none 0 0], .slice none 0 0, .bool false]) (by rw [results_cell_tmp2 rfl]; simp [asAddr, Result.andThen, go_sem, u0, u1, u2]) rfl ?_
      have hle := HB.out.2.1
      exact ⟨WV.zero, WD.zero, none, 0, 0, [], false, rfl, rfl, Or.inr ⟨fun hp => by have h5 := G.out.2; have h6 := hp.2.1; omega, rfl, rfl, rfl⟩, small_zero, by simp, WOwn.zero _ _, IntsOwn.nil _ _ _ _, Mod.blw (HBz.out.1) mS (fun i e => by omega)⟩
    · by_cases h2 : 100 < t
      · have hd1 : decide (t < 0) = false := decide_eq_false h1
        have hd2 : decide (t > 100) = true := decide_eq_true h2
        have G : Hid (GoodD D ∧ 100 < t) := ⟨hg, h2⟩
        clear hg h1 h2
        go_enter Try.func13, Try.ntmps13
        go_upto_region 1 with fail
        try simp only [hWa, hW0]
        obtain ⟨c0, c1, c2⟩ := get3 ra
        clear hWa hW0 r0 ra r1
        go_upto_region 2 with (first | (go_at_call 48; refine HHO.out.mono ?_; rintro e w1 ⟨now, R, P, C, b, rfl, hE1⟩) | (refine alloc_big rfl 71 rfl 17 hz0 zeroH ?_; intro w2 RZ2 hb2 hz2) | (refine store_big rfl 71 _ _ rfl _ 17 (hcell now R P C) hz0 rfl rfl wdH RZ2 (fun i _ => hcell_one _ _ _ _ _) ?_; intro wz RZ9 hm9 hs9) | fail)
        obtain ⟨hbo, hbt, hbl⟩ := hE1
        clear c0 c1 c2 HHO
        have hbz : Blw W0 wz := Mod.blw (hbl.trans hb2) hm9 (fun i e => by have := hbl.size; omega)
        obtain rfl : b = true := hbo.2 G.out.1
        obtain ⟨e1, e2, hR⟩ := hbt rfl
        subst e1 e2
        have HWz : Hid (HW W0.heap.size w1.heap.size D.now (rows16 D) P C wz) := ((hR.blw hb2).mod hm9 (fun k b hk e hh => by have h5 := hR.lt hk e; omega)).box (fun k b hk e => by have h5 := hR.lt hk e; omega) RZ9
        have HBz : Hid (Blw w wz ∧ W0.heap.size ≤ wz.heap.size) := ⟨HB.out.1.trans hbz, hbz.size⟩
        have HRz : Hid (Row wz Wa.heap.size 3 (t3 (.int .i64 0) (.slice none 0 0) (.slice none 0 0))) := HR1.out.blw hbz
        have HS1 : Hid (W0.heap.size ≤ w1.heap.size) := hbl.size
        have HBW : Hid (Blw W0 wz) := hbz
        clear hR hbo hbt hbl RZ2 hb2 hz2 RZ9 hm9 hs9 hbz
        obtain ⟨q0, q1, q2⟩ := get3 (HRz.out)
        have f0 := (HRz.out).frozen 0
        have f1 := (HRz.out).frozen 1
        have f2 := (HRz.out).frozen 2
        go_wp2_with fail
        have r9 := set3_2 (set3_1 (set3_0 (HRz.out) (.int .i64 0)) (.slice none 0 0)) (.slice none 0 0)
        obtain ⟨u0, u1, u2⟩ := get3 r9
        have mS := set3_mod (X := fun b => b = Wa.heap.size) wz rfl (.int .i64 0) (.slice none 0 0) (.slice none 0 0)
        refine bodyPost_ret (v := .tuple #[.agg #[.int .i64 0, .slice none 0 0, .slice none 0 0], .slice none 0 0, .bool false]) (by rw [results_cell_tmp2 rfl]; simp [asAddr, Result.andThen, go_sem, u0, u1, u2]) rfl ?_
        have hle := HB.out.2.1
        exact ⟨WV.zero, WD.zero, none, 0, 0, [], false, rfl, rfl, Or.inr ⟨fun hp => by have h5 := G.out.2; have h6 := hp.2.2.1; omega, rfl, rfl, rfl⟩, small_zero, by simp, WOwn.zero _ _, IntsOwn.nil _ _ _ _, Mod.blw (HBz.out.1) mS (fun i e => by omega)⟩
      · have hd1 : decide (t < 0) = false := decide_eq_false h1
        have hd2 : decide (t > 100) = false := decide_eq_false h2
        have hn := hg.now
        have hwr : IntKind.i64.wrap (D.now + t) = D.now + t := by rw [IntKind.wrap_i64]; omega
        by_cases h3 : 1000 < D.now + t
        · have HIN : Hid (∀ W, Calls Try.prog 49 #[.int .i64 (D.now + t)] W fun e w' => e = .returned (.bool false) ∧ w' = W) := fun W => (isNow_any (D.now + t) W).mono (fun e w' h => ⟨by rw [h.1, decide_eq_false (by omega)], h.2⟩)
          have G : Hid (GoodD D ∧ 1000 < D.now + t) := ⟨hg, h3⟩
          clear hg h1 h2 h3 hn
          go_enter Try.func13, Try.ntmps13
          go_upto_region 1 with fail
          try simp only [hWa, hW0]
          obtain ⟨c0, c1, c2⟩ := get3 ra
          clear hWa hW0 r0 ra r1
          go_upto_region 2 with (first | (go_at_call 48; refine HHO.out.mono ?_; rintro e w1 ⟨now, R, P, C, b, rfl, hE1⟩) | (refine alloc_big rfl 71 rfl 17 hz0 zeroH ?_; intro w2 RZ2 hb2 hz2) | (refine store_big rfl 71 _ _ rfl _ 17 (hcell now R P C) hz0 rfl rfl wdH RZ2 (fun i _ => hcell_one _ _ _ _ _) ?_; intro wz RZ9 hm9 hs9) | fail)
          obtain ⟨hbo, hbt, hbl⟩ := hE1
          clear c0 c1 c2 HHO
          have hbz : Blw W0 wz := Mod.blw (hbl.trans hb2) hm9 (fun i e => by have := hbl.size; omega)
          obtain rfl : b = true := hbo.2 G.out.1
          obtain ⟨e1, e2, hR⟩ := hbt rfl
          subst e1 e2
          have HWz : Hid (HW W0.heap.size w1.heap.size D.now (rows16 D) P C wz) := ((hR.blw hb2).mod hm9 (fun k b hk e hh => by have h5 := hR.lt hk e; omega)).box (fun k b hk e => by have h5 := hR.lt hk e; omega) RZ9
          have HBz : Hid (Blw w wz ∧ W0.heap.size ≤ wz.heap.size) := ⟨HB.out.1.trans hbz, hbz.size⟩
          have HRz : Hid (Row wz Wa.heap.size 3 (t3 (.int .i64 0) (.slice none 0 0) (.slice none 0 0))) := HR1.out.blw hbz
          have HS1 : Hid (W0.heap.size ≤ w1.heap.size) := hbl.size
          have HBW : Hid (Blw W0 wz) := hbz
          clear hR hbo hbt hbl RZ2 hb2 hz2 RZ9 hm9 hs9 hbz
          have hnow := HWz.out.now0
          obtain ⟨q0, q1, q2⟩ := get3 (HRz.out)
          have f0 := (HRz.out).frozen 0
          have f1 := (HRz.out).frozen 1
          have f2 := (HRz.out).frozen 2
          go_wp2_with (first | (go_at_call 49; first | rw [hwr] | skip; refine (HIN.out _).mono ?_; rintro e w' ⟨rfl, hw⟩; replace hw := hw.symm; subst hw) | fail)
          have r9 := set3_2 (set3_1 (set3_0 (HRz.out) (.int .i64 0)) (.slice none 0 0)) (.slice none 0 0)
          obtain ⟨u0, u1, u2⟩ := get3 r9
          have mS := set3_mod (X := fun b => b = Wa.heap.size) wz rfl (.int .i64 0) (.slice none 0 0) (.slice none 0 0)
          refine bodyPost_ret (v := .tuple #[.agg #[.int .i64 0, .slice none 0 0, .slice none 0 0], .slice none 0 0, .bool false]) (by rw [results_cell_tmp2 rfl]; simp [asAddr, Result.andThen, go_sem, u0, u1, u2]) rfl ?_
          have hle := HB.out.2.1
          exact ⟨WV.zero, WD.zero, none, 0, 0, [], false, rfl, rfl, Or.inr ⟨fun hp => by have h5 := G.out.2; have h6 := hp.2.2.2; omega, rfl, rfl, rfl⟩, small_zero, by simp, WOwn.zero _ _, IntsOwn.nil _ _ _ _, Mod.blw (HBz.out.1) mS (fun i e => by omega)⟩
        · have HIN : Hid (∀ W, Calls Try.prog 49 #[.int .i64 (D.now + t)] W fun e w' => e = .returned (.bool true) ∧ w' = W) := fun W => (isNow_any (D.now + t) W).mono (fun e w' h => ⟨by rw [h.1, decide_eq_true (by omega)], h.2⟩)
          have G : Hid (GoodD D ∧ 0 ≤ t ∧ t ≤ 100 ∧ D.now + t ≤ 1000) := ⟨hg, by omega, by omega, by omega⟩
          clear hg h1 h2 h3 hn
          go_enter Try.func13, Try.ntmps13
          go_upto_region 1 with fail
          try simp only [hWa, hW0]
          obtain ⟨c0, c1, c2⟩ := get3 ra
          clear hWa hW0 r0 ra r1
          go_upto_region 2 with (first | (go_at_call 48; refine HHO.out.mono ?_; rintro e w1 ⟨now, R, P, C, b, rfl, hE1⟩) | (refine alloc_big rfl 71 rfl 17 hz0 zeroH ?_; intro w2 RZ2 hb2 hz2) | (refine store_big rfl 71 _ _ rfl _ 17 (hcell now R P C) hz0 rfl rfl wdH RZ2 (fun i _ => hcell_one _ _ _ _ _) ?_; intro wz RZ9 hm9 hs9) | fail)
          obtain ⟨hbo, hbt, hbl⟩ := hE1
          clear c0 c1 c2 HHO
          have hbz : Blw W0 wz := Mod.blw (hbl.trans hb2) hm9 (fun i e => by have := hbl.size; omega)
          obtain rfl : b = true := hbo.2 G.out.1
          obtain ⟨e1, e2, hR⟩ := hbt rfl
          subst e1 e2
          have HWz : Hid (HW W0.heap.size w1.heap.size D.now (rows16 D) P C wz) := ((hR.blw hb2).mod hm9 (fun k b hk e hh => by have h5 := hR.lt hk e; omega)).box (fun k b hk e => by have h5 := hR.lt hk e; omega) RZ9
          have HBz : Hid (Blw w wz ∧ W0.heap.size ≤ wz.heap.size) := ⟨HB.out.1.trans hbz, hbz.size⟩
          have HRz : Hid (Row wz Wa.heap.size 3 (t3 (.int .i64 0) (.slice none 0 0) (.slice none 0 0))) := HR1.out.blw hbz
          have HS1 : Hid (W0.heap.size ≤ w1.heap.size) := hbl.size
          have HBW : Hid (Blw W0 wz) := hbz
          clear hR hbo hbt hbl RZ2 hb2 hz2 RZ9 hm9 hs9 hbz
          have hnow := HWz.out.now0
          go_upto_region 6 with (first | (go_at_call 49; first | rw [hwr] | skip; refine (HIN.out _).mono ?_; rintro e w' ⟨rfl, hw⟩; replace hw := hw.symm; subst hw) | fail)
          clear hd1 hd2 hwr HIN hnow
          obtain ⟨T, rfl⟩ : ∃ T : Nat, t = (T : Int) := ⟨t.toNat, by have h5 := G.out; omega⟩
          have hT100 : T ≤ 100 := by have h5 := G.out; omega
          have HTR : Hid (TR [] (rows16 D)) := G.out.1.g.tr G.out.1.now.1 G.out.1.now.2
          have HLZ : Hid (W0.heap.size ≤ w1.heap.size ∧ W0.heap.size ≤ wz.heap.size) := ⟨HS1.out, HBz.out.2⟩
          have HI0 : Hid (HW W0.heap.size w1.heap.size D.now (rows16 D) P C wz ∧ Blw W0 wz) := ⟨HWz.out, HBW.out⟩
          obtain ⟨R0, hR0⟩ : ∃ x, rows16 D = x := ⟨_, rfl⟩
          rw [hR0] at HTR HI0
          have HR00 : Hid (rows16 D = R0) := hR0
          clear hR0
          go_loopw [9, 35] (fun s9 i wr => ∃ (j : Nat) (P : Nat → Option Addr) (C : Nat → Nat) (ao : Option Addr) (c m : Nat), j ≤ T ∧ s9 = .slice ao m c ∧ i = .int .i64 j ∧ Hid (m = (runI D.now R0 j).length ∧ HW W0.heap.size w1.heap.size (D.now + j) (runR D.now R0 j) P C wr ∧ BufI (fun b => W0.heap.size ≤ b ∧ b < wr.heap.size ∧ ¬ HX w1.heap.size P b) wr (.slice ao m c) m (gi (runI D.now R0 j)) ∧ Blw W0 wr)) (fun _ i _ => T - (intOf i).toNat)
          case atStart => exact ⟨0, P, C, none, 0, 0, Nat.zero_le _, rfl, rfl, rfl, by have h5 := HI0.out.1; rw [show D.now = D.now + ((0 : Nat) : Int) by omega] at h5; exact h5, Buf.nil _ _ _ _ _, HI0.out.2⟩
          case round =>
            clear HI0 HWz HBz HRz HBW
            obtain ⟨j, P, C, ao, c, m, hj, rfl, rfl, hI⟩ := hrel
            by_cases hlt : j < T
            · have hlt' : (j : Int) < T := by omega
              have htr := HTR.out.run D.now j
              have hn9 := G.out.1.now
              have hlw : W0.heap.size ≤ wr.heap.size := hI.out.2.2.2.size
              have HTK : Hid (Calls Try.prog 50 #[.pointer (some ⟨w1.heap.size, 0, none⟩)] wr (TickPost W0.heap.size w1.heap.size (D.now + j + 1) (runR D.now R0 j) P wr)) := tick_any _ _ _ _ _ _ _ hI.out.2.1 hlw htr (by omega) (by have h5 := G.out; omega)
              have HLI : Hid ((runI D.now R0 j).length ≤ 20 * j ∧ (tickIds (D.now + j + 1) (runR D.now R0 j)).length ≤ 20) := ⟨HTR.out.runI D.now j, htr.ids _⟩
              clear htr hn9 hlw
              go_wp2_with fail
              refine HTK.out.mono ?_
              rintro e w5 ⟨a5, c5, m5, rfl, hE⟩
              obtain ⟨hm5, hi5, ⟨P', C', hW5, hP5⟩, hmo5⟩ := hE.out
              obtain ⟨hm0, hW0, hB0, hbl0⟩ := hI.out
              have hB5 := Buf.mod hB0 hmo5 (fun b hb => hb.2.2)
              obtain ⟨l1, l2⟩ := HLI.out
              obtain ⟨a6, c6, w6, hrun, hB6, hm6⟩ := BufI.append hB5 c5 hi5 (by omega) 28
              have hx5 : ∀ b, (Value.slice ao m c).ownBlock = some b → W0.heap.size ≤ b ∧ b < wr.heap.size ∧ ¬ HX w1.heap.size P b := hB5.2
              have hs5 := hmo5.size
              have HNX : Hid (m + m5 = (runI D.now R0 (j + 1)).length ∧ HW W0.heap.size w1.heap.size (D.now + ((j + 1 : Nat) : Int)) (runR D.now R0 (j + 1)) P' C' w6 ∧ BufI (fun b => W0.heap.size ≤ b ∧ b < w6.heap.size ∧ ¬ HX w1.heap.size P' b) w6 (.slice a6 (m + m5) c6) (m + m5) (gi (runI D.now R0 (j + 1))) ∧ Blw W0 w6) := by
                refine ⟨?_, ?_, ?_, ?_⟩
                · rw [hm0, hm5]; simp [runI]
                · rw [show D.now + ((j + 1 : Nat) : Int) = D.now + j + 1 by omega]
                  refine hW5.mod hm6 (fun e => (hx5 _ e).2.2 (Or.inl rfl)) (fun k b hk e hh => ?_)
                  have h5 := hx5 b hh
                  rcases hP5 k b hk e with h6 | h6
                  · exact h5.2.2 h6
                  · omega
                · refine (hB6.congr (fun i hi => ?_)).mono (fun b hb => ⟨?_, hb.2, fun hx => ?_⟩)
                  · simp only [ic, icat, runI, gi_app, hm0]
                  · rcases hb.1 with h6 | h6
                    · exact h6.1
                    · have h7 := hbl0.size; omega
                  · have h8 := hW5.hx_lt hx
                    rcases hb.1 with h6 | h6
                    · rcases hx with h9 | ⟨k, hk, h9⟩
                      · exact h6.2.2 (Or.inl h9)
                      · rcases hP5 k b hk h9 with h10 | h10
                        · exact h6.2.2 h10
                        · omega
                    · omega
                · refine Mod.blw (Mod.blw hbl0 hmo5 (fun i hi => ?_)) hm6 (fun i hi => (hx5 i hi).1)
                  have h7 := HLZ.out.1
                  rcases hW0.hx hi with h6 | h6 <;> omega
              clear hm5 hi5 hW5 hP5 hmo5 hm0 hW0 hB0 hbl0 hB5 l1 l2 hB6 hm6 hx5 hs5 hE hI HLI HTK
              go_wp2_with (at_builtin; refine wpList_append_run rfl _ _ 28 rfl _ _ rfl rfl hrun ?_)
              go_roundw
              case rel => exact ⟨j + 1, P', C', a6, c6, m + m5, by omega, rfl, by go_num, HNX.out⟩
              case measure => simp [intOf]; omega
            · obtain rfl : j = T := by omega
              obtain ⟨hm0, hW0, hB0, hbl0⟩ := hI.out
              have htr := HTR.out.run D.now j
              have HR3 : Hid (Row wr Wa.heap.size 3 (t3 (.int .i64 0) (.slice none 0 0) (.slice none 0 0))) := HR1.out.blw hbl0
              have HGO : Hid (Calls Try.prog 51 #[.pointer (some ⟨w1.heap.size, 0, none⟩)] wr fun e w' => ∃ v : WV, e = .returned (v.val (wd8 (D.now + j) (runR D.now R0 j))) ∧ w'.cell? ⟨Wa.heap.size, 0, none⟩ = some (.int .i64 0) ∧ w'.cell? ⟨Wa.heap.size, 1, none⟩ = some (.slice none 0 0) ∧ w'.cell? ⟨Wa.heap.size, 2, none⟩ = some (.slice none 0 0) ∧ w'.frozen? ⟨Wa.heap.size, 0, none⟩ = false ∧ w'.frozen? ⟨Wa.heap.size, 1, none⟩ = false ∧ w'.frozen? ⟨Wa.heap.size, 2, none⟩ = false ∧ Hid (WOwn (fun x => (∃ k, k < 16 ∧ P k = some ⟨x, 0, none⟩) ∨ (wr.heap.size ≤ x ∧ x < w'.heap.size)) w' v (wd8 (D.now + j) (runR D.now R0 j)) ∧ Blw wr w' ∧ Row w' Wa.heap.size 3 (t3 (.int .i64 0) (.slice none 0 0) (.slice none 0 0)))) := by
                refine (giveOutX_any W0.heap.size w1.heap.size (D.now + j) (runR D.now R0 j) P C wr hW0 hbl0.size (fun k hk => by have h5 := htr.rowlen hk; omega)).mono ?_
                rintro e w' ⟨v, rfl, hE⟩
                have r9 := (HR3.out).blw hE.out.2
                obtain ⟨t0, t1, t2⟩ := get3 r9
                exact ⟨v, rfl, t0, t1, t2, r9.frozen 0, r9.frozen 1, r9.frozen 2, hE.out.1, hE.out.2, r9⟩
              clear hm0 hW0 hB0 hbl0 htr
              go_wp2_with (first | (go_at_call 51; refine HGO.out.mono ?_; rintro e W2 ⟨v, rfl, q0, q1, q2, f0, f1, f2, hE⟩) | fail)
              have r9 := set3_2 (set3_1 (set3_0 hE.out.2.2 (.int .i64 (D.now + j))) (.slice v.a1 8 v.c1)) (.slice v.a2 8 v.c2)
              obtain ⟨u0, u1, u2⟩ := get3 r9
              have mS := set3_mod (X := fun b => b = Wa.heap.size) W2 rfl (.int .i64 (D.now + j)) (.slice v.a1 8 v.c1) (.slice v.a2 8 v.c2)
              refine bodyPost_ret (v := .tuple #[.agg #[.int .i64 (D.now + j), .slice v.a1 8 v.c1, .slice v.a2 8 v.c2], .slice ao m c, .bool true]) (by rw [results_cell_tmp2 rfl]; simp [asAddr, Result.andThen, go_sem, u0, u1, u2]) rfl ?_
              obtain ⟨hm0, hW0, hB0, hbl0⟩ := hI.out
              have htr := HTR.out.run D.now j
              have hli := HTR.out.runI D.now j
              have hsB := HB.out.2.2
              have hle := HB.out.2.1
              have hm5 := mS.size
              have hs0 := hbl0.size
              have hs2 := hE.out.2.1.size
              obtain ⟨ao2, cap2, ee, hown⟩ := BufI.own hB0 (by omega)
              simp only [Value.slice.injEq] at ee
              obtain ⟨rfl, -, rfl⟩ := ee
              have hLo := hW0.lo
              have htl := htr.len
              refine ⟨v, wd8 (D.now + j) (runR D.now R0 j), ao, c, m, runI D.now R0 j, true, rfl, hm0, Or.inl ⟨⟨G.out.1, G.out.2.1, G.out.2.2.1, G.out.2.2.2⟩, by rw [HR00.out]; rfl, by rw [HR00.out]; rfl, rfl⟩, small8 (by simp only [List.nil_append] at htl; omega), by omega, (hE.out.1.mod mS (fun b hb e => ?_)).mono (fun b hb => ⟨?_, fun e => ?_⟩), ?_, Mod.blw ((HB.out.1.trans hbl0).trans hE.out.2.1) mS (fun i e => by omega)⟩
              · rcases hb with ⟨k, hk, h5⟩ | h5
                · have h6 := (hLo k b hk h5).1; omega
                · omega
              · rcases hb with ⟨k, hk, h5⟩ | h5
                · have h6 := (hLo k b hk h5).1; have h7 := hW0.lt hk h5; exact ⟨by omega, by omega⟩
                · exact ⟨by omega, by omega⟩
              · have h8 := hB0.2 b (by rw [e]; simp [Value.ownBlock])
                rcases hb with ⟨k, hk, h5⟩ | h5
                · exact h8.2.2 (Or.inr ⟨k, hk, h5⟩)
                · omega
              · rw [← hm0]
                exact (((hown.blw hE.out.2.1).mod mS (fun b hb e => by omega)).mono (fun b hb => (⟨by omega, by omega⟩ : w.heap.size ≤ b ∧ b < _))).exact
  · have NG : Hid (¬ GoodD D) := hg
    clear hg
    go_enter Try.func13, Try.ntmps13
    go_upto_region 1 with fail
    try simp only [hWa, hW0]
    obtain ⟨c0, c1, c2⟩ := get3 ra
    clear hWa hW0 r0 ra r1
    go_upto_region 2 with (first | (go_at_call 48; refine HHO.out.mono ?_; rintro e w1 ⟨now, R, P, C, b, rfl, hE1⟩) | (refine alloc_big rfl 71 rfl 17 hz0 zeroH ?_; intro w2 RZ2 hb2 hz2) | (refine store_big rfl 71 _ _ rfl _ 17 (hcell now R P C) hz0 rfl rfl wdH RZ2 (fun i _ => hcell_one _ _ _ _ _) ?_; intro wz RZ9 hm9 hs9) | fail)
    obtain ⟨hbo, hbt, hbl⟩ := hE1
    clear c0 c1 c2 HHO
    have hbz : Blw W0 wz := Mod.blw (hbl.trans hb2) hm9 (fun i e => by have := hbl.size; omega)
    obtain rfl : b = false := by cases b; rfl; exact absurd (hbo.1 rfl) NG.out
    have HBz : Hid (Blw w wz ∧ W0.heap.size ≤ wz.heap.size) := ⟨HB.out.1.trans hbz, hbz.size⟩
    have HRz : Hid (Row wz Wa.heap.size 3 (t3 (.int .i64 0) (.slice none 0 0) (.slice none 0 0))) := HR1.out.blw hbz
    clear hbo hbt hbl RZ2 hb2 hz2 RZ9 hm9 hs9 hbz
    obtain ⟨q0, q1, q2⟩ := get3 (HRz.out)
    have f0 := (HRz.out).frozen 0
    have f1 := (HRz.out).frozen 1
    have f2 := (HRz.out).frozen 2
    go_wp2_with fail
    have r9 := set3_2 (set3_1 (set3_0 (HRz.out) (.int .i64 0)) (.slice none 0 0)) (.slice none 0 0)
    obtain ⟨u0, u1, u2⟩ := get3 r9
    have mS := set3_mod (X := fun b => b = Wa.heap.size) wz rfl (.int .i64 0) (.slice none 0 0) (.slice none 0 0)
    refine bodyPost_ret (v := .tuple #[.agg #[.int .i64 0, .slice none 0 0, .slice none 0 0], .slice none 0 0, .bool false]) (by rw [results_cell_tmp2 rfl]; simp [asAddr, Result.andThen, go_sem, u0, u1, u2]) rfl ?_
    have hle := HB.out.2.1
    exact ⟨WV.zero, WD.zero, none, 0, 0, [], false, rfl, rfl, Or.inr ⟨fun hp => NG.out hp.1, rfl, rfl, rfl⟩, small_zero, by simp, WOwn.zero _ _, IntsOwn.nil _ _ _ _, Mod.blw (HBz.out.1) mS (fun i e => by omega)⟩
end Go.Proofs.Ytkmkidahaagbpaa
