/- RunWheel of the model. -/
import Derived.Test.YtkmkidahaagbpaaIRun
import Derived.Test.YtkmkidahaagbpaaSTi
import Derived.Test.YtkmkidahaagbpaaSSet
namespace Go.Proofs.Ytkmkidahaagbpaa
open Go.RowKit
set_option linter.unusedSimpArgs false
set_option linter.unusedVariables false
def Ty (w : World) (b : Nat) (t : TypeId) : Prop := ∃ c, w.heap[b]? = some (.cells c t (0, 0))
theorem Ty.lt {w : World} {b : Nat} {t : TypeId} (h : Ty w b t) : b < w.heap.size := by
  obtain ⟨c, h⟩ := h
  exact (Array.getElem?_eq_some_iff.1 h).1
theorem Ty.mod {X : Nat → Prop} {w w' : World} {b : Nat} {t : TypeId} (h : Ty w b t) (hm : Mod X w w') (hx : ¬ X b) : Ty w' b t := h.imp (fun c e => (hm.block b h.lt hx).trans e)
theorem Ty.blw {w w' : World} {b : Nat} {t : TypeId} (h : Ty w b t) (hb : Blw w w') : Ty w' b t := h.imp (fun c e => (hb.block b h.lt).trans e)
theorem Ty.set {w : World} {b : Nat} {t : TypeId} (h : Ty w b t) (i : Nat) (v : Value) : Ty (w.setCell ⟨b, i, none⟩ v) b t := by
  obtain ⟨c, hb⟩ := h
  exact ⟨c.setIfInBounds i v, by simp [World.setCell, Array.getElem?_modify, hb]⟩
theorem OW.noTy {lo g1 g2 : Nat} {R : Rws} {P : Nat → Option Addr} {C : Nat → Nat} {W : World} (h : OW lo g1 g2 R P C W) {b : Nat} {t : TypeId} (ht : Ty W b t) (hne : t ≠ 39) {k : Nat} (hk : k < 16) : P k ≠ some ⟨b, 0, none⟩ := by
  intro e
  obtain ⟨c, hc⟩ := ht
  have hb := h.hr.buf k hk
  rcases hb.1.2 with h1 | ⟨g, cap, cur, e1, h1, hg, h2⟩
  · have h3 := h1.1
    simp only [Value.slice.injEq] at h3
    rw [h3.1] at e; cases e
  · simp only [Value.slice.injEq] at e1
    rw [e] at e1
    have e2 := e1.1
    simp only [Option.some.injEq, Addr.mk.injEq] at e2
    rw [e2.1] at hc
    rw [hc] at hg
    simp at hg
    exact hne hg.2
theorem OW.modY {lo g1 g2 : Nat} {R : Rws} {P : Nat → Option Addr} {C : Nat → Nat} {w w' : World} {Z : Nat → Prop} {t : TypeId} (h : OW lo g1 g2 R P C w) (hne : t ≠ 39) (hm : Mod Z w w') (hz : ∀ b, Z b → Ty w b t ∧ g1 ≠ b ∧ g2 ≠ b) : OW lo g1 g2 R P C w' :=
  ⟨h.n.mod hm (fun e => (hz _ e).2.1 rfl), h.f.mod hm (fun e => (hz _ e).2.2 rfl), h.hr.mod hm (fun k x hk e e2 => h.noTy (hz x e2).1 hne hk e), h.n1, h.n2, h.ne, h.lo1, h.lo2⟩
theorem BufI.ty {X : Nat → Prop} {w : World} {v : Value} {n : Nat} {f : Nat → Int} (h : BufI X w v n f) {b : Nat} (hb : v.ownBlock = some b) : Ty w b 3 := by
  rcases h.1.2 with h1 | ⟨g, cap, cur, rfl, h1, hg, h2⟩
  · rw [h1.1] at hb; simp [Value.ownBlock] at hb
  · simp [Value.ownBlock] at hb; subst hb; exact ⟨cur, hg⟩
theorem OW.rows {lo g1 g2 : Nat} {R : Rws} {P : Nat → Option Addr} {C : Nat → Nat} {w : World} (h : OW lo g1 g2 R P C w) (now : Int) (hl : ∀ k, k < 16 → (R k).length ≤ 1000) : WRows (fun x => lo ≤ x ∧ x < w.heap.size) w ⟨some ⟨g1, 0, none⟩, some ⟨g2, 0, none⟩, 8, 8⟩ (wd8 now R) R :=
  let a := (h.own now hl).at
  ⟨a.n, a.f⟩
set_option maxRecDepth 10000 in
set_option maxHeartbeats 3200000 in
theorem specRun_any (v : WV) (D : WD) (t : Int) (Y : Nat → Prop) (w : World) (h : WAt Y w v D) (hS : D.small) : Calls Try.prog 14 #[v.val D, .int .i64 t] w (GivesWI (runOut D t) w) := by
  have hb0 : Blw w (w.alloc (.cells #[.int .i64 D.now, .slice v.a1 D.N.n v.c1, .slice v.a2 D.F.n v.c2] 25)) := (Blw.refl _).alloc _
  have r0 := box3 w (.int .i64 D.now) (.slice v.a1 D.N.n v.c1) (.slice v.a2 D.F.n v.c2) 25
  obtain ⟨Wa, hWa⟩ : ∃ Wa, w.alloc (.cells #[.int .i64 D.now, .slice v.a1 D.N.n v.c1, .slice v.a2 D.F.n v.c2] 25) = Wa := ⟨_, rfl⟩
  rw [hWa] at hb0 r0
  have hsa : Wa.heap.size = w.heap.size + 1 := by rw [← hWa, World.size_alloc]
  have hb1 : Blw Wa (Wa.alloc (.cells #[.int .i64 0, .slice none 0 0, .slice none 0 0] 25)) := (Blw.refl _).alloc _
  have r1 := box3 Wa (.int .i64 0) (.slice none 0 0) (.slice none 0 0) 25
  have ra := r0.blw hb1
  obtain ⟨W0, hW0⟩ : ∃ W0, Wa.alloc (.cells #[.int .i64 0, .slice none 0 0, .slice none 0 0] 25) = W0 := ⟨_, rfl⟩
  rw [hW0] at hb1 r1 ra
  have HGD : Hid (Calls Try.prog 38 #[.agg #[.int .i64 D.now, .slice v.a1 D.N.n v.c1, .slice v.a2 D.F.n v.c2]] W0 (BRes (GoodD D) W0)) := specGood_any v D Y W0 ((h.blw hb0).blw hb1) hS
  have HAT : Hid (WAt Y W0 v D ∧ D.small) := ⟨(h.blw hb0).blw hb1, hS⟩
  have HB : Hid (Blw w W0 ∧ w.heap.size ≤ Wa.heap.size ∧ Wa.heap.size < W0.heap.size ∧ w.heap.size ≠ Wa.heap.size) := ⟨hb0.trans hb1, by omega, r1.lt, by omega⟩
  have HR1 : Hid (Row W0 Wa.heap.size 3 (t3 (.int .i64 0) (.slice none 0 0) (.slice none 0 0))) := r1
  have HRA : Hid (Row W0 w.heap.size 3 (t3 (.int .i64 D.now) (.slice v.a1 D.N.n v.c1) (.slice v.a2 D.F.n v.c2))) := ra
  clear h hb0 hb1 hsa hS
  have a0 : ∀ W, Blw W0 W → W.cell? ⟨w.heap.size, 0, none⟩ = some (.int .i64 D.now) := fun W hb => (get3 (HRA.out.blw hb)).1
  have a1 : ∀ W, Blw W0 W → W.cell? ⟨w.heap.size, 1, none⟩ = some (.slice v.a1 D.N.n v.c1) := fun W hb => (get3 (HRA.out.blw hb)).2.1
  have a2 : ∀ W, Blw W0 W → W.cell? ⟨w.heap.size, 2, none⟩ = some (.slice v.a2 D.F.n v.c2) := fun W hb => (get3 (HRA.out.blw hb)).2.2
  have b0 : ∀ W, Blw W0 W → W.cell? ⟨Wa.heap.size, 0, none⟩ = some (.int .i64 0) := fun W hb => (get3 (HR1.out.blw hb)).1
  have b1 : ∀ W, Blw W0 W → W.cell? ⟨Wa.heap.size, 1, none⟩ = some (.slice none 0 0) := fun W hb => (get3 (HR1.out.blw hb)).2.1
  have b2 : ∀ W, Blw W0 W → W.cell? ⟨Wa.heap.size, 2, none⟩ = some (.slice none 0 0) := fun W hb => (get3 (HR1.out.blw hb)).2.2
  have f0 : ∀ W, Blw W0 W → W.frozen? ⟨Wa.heap.size, 0, none⟩ = false := fun W hb => (HR1.out.blw hb).frozen 0
  have f1 : ∀ W, Blw W0 W → W.frozen? ⟨Wa.heap.size, 1, none⟩ = false := fun W hb => (HR1.out.blw hb).frozen 1
  have f2 : ∀ W, Blw W0 W → W.frozen? ⟨Wa.heap.size, 2, none⟩ = false := fun W hb => (HR1.out.blw hb).frozen 2
  have hrefl : Blw W0 W0 := Blw.refl _
  by_cases hg : GoodD D
  · have hn8 : D.N.n = 8 := hg.n
    have hf8 : D.F.n = 8 := hg.f
    have hwr0 : WRows Y W0 v D (rows16 D) := HAT.out.1.rows hn8 hf8
    have hall : (allS 8 (rows16 D)).length ≤ 20 := by rw [(allS_perm (rows16 D)).length_eq]; exact hg.g.len
    have HHA : Hid True := trivial
    have HAL : Hid (∀ W, Blw W0 W → Calls Try.prog 58 #[.agg #[.int .i64 D.now, .slice v.a1 D.N.n v.c1, .slice v.a2 D.F.n v.c2]] W fun e w' => ∃ a c, e = .returned (.slice a (allS 8 (rows16 D)).length c) ∧ Hid (LB (fun b => W.heap.size ≤ b ∧ b < w'.heap.size) w' a c (allS 8 (rows16 D)) ∧ Blw W w')) := fun W hb => l11All_any v D.now D.N D.F (rows16 D) Y W hn8 hf8 (hwr0.blw hb) (by omega)
    have HOW : Hid (∀ W, Blw W0 W → Calls Try.prog 53 #[.agg #[.int .i64 D.now, .slice v.a1 D.N.n v.c1, .slice v.a2 D.F.n v.c2]] W fun e w' => ∃ g1 g2 P C, e = .returned (.agg #[.int .i64 D.now, .slice (some ⟨g1, 0, none⟩) 8 8, .slice (some ⟨g2, 0, none⟩) 8 8]) ∧ Hid (OW W.heap.size g1 g2 (rows16 D) P C w' ∧ Blw W w')) := fun W hb => l11Own_any v D.now D.N D.F (rows16 D) Y W hn8 hf8 (hwr0.blw hb) (fun k hk => by have h5 := len_row (S := rows16 D) hk; have h6 := hg.g.len; omega) (fun k hk => rows16_out D k hk)
    have hall2 : (allS 8 (rows16 D)).length = (allR (rows16 D)).length := (allS_perm (rows16 D)).length_eq
    obtain ⟨L, hL⟩ : ∃ L, allS 8 (rows16 D) = L := ⟨_, rfl⟩
    rw [hL] at HAL hall hall2
    clear hL hwr0 hn8 hf8
    have G : Hid (GoodD D) := hg
    have hgn := hg.now
    clear hg hall
    by_cases i1 : 0 ≤ t ∧ t ≤ 100
    · have I1 : Hid (0 ≤ t ∧ t ≤ 100) := i1
      have hwr : IntKind.i64.wrap (D.now + t) = D.now + t := by rw [IntKind.wrap_i64]; omega
      by_cases i3 : D.now + t ≤ 1000
      · have I3 : Hid (D.now + t ≤ 1000) := i3
        have hd : decide (D.now + t > 1000) = false := decide_eq_false (by omega)
        clear i1 i3 hgn
        go_enter Try.func14, Try.ntmps14
        go_upto_region 1 with fail
        try simp only [hWa, hW0]
        clear hWa hW0 r0 ra r1
        go_upto_region 3 with (first | (go_at_call 38; refine HGD.out.mono ?_; rintro e w1 ⟨q1, rfl, hq1, hbw1⟩; obtain rfl : q1 = true := hq1.2 G.out; clear hq1) | (go_at_call_of 52 (Value.int .i64 (100 : Int)); refine (l1In_yes t 0 100 _ I1.out.1 I1.out.2).mono ?_; rintro e w' ⟨rfl, hw⟩; replace hw := hw.symm; subst hw) | fail)
        go_upto_region 4 with (first | (go_at_call 53; refine (HOW.out _ hbw1).mono ?_; rintro e w4 hE4; obtain ⟨g1, g2, P, C, rfl, hE⟩ : ∃ g1 g2 P C, e = .returned (.agg #[.int .i64 D.now, .slice (some ⟨g1, 0, none⟩) 8 8, .slice (some ⟨g2, 0, none⟩) 8 8]) ∧ Hid (OW w1.heap.size g1 g2 (rows16 D) P C w4 ∧ Blw w1 w4) := hE4) | fail)
        clear HGD hd hwr
        have hb3 := hbw1.size
        have hbw4 := hbw1.trans hE.out.2
        have hba : Blw w4 (w4.alloc (.cells #[.int .i64 D.now, .slice (some ⟨g1, 0, none⟩) 8 8, .slice (some ⟨g2, 0, none⟩) 8 8] 25)) := (Blw.refl _).alloc _
        have HZ : Hid (Row (w4.alloc (.cells #[.int .i64 D.now, .slice (some ⟨g1, 0, none⟩) 8 8, .slice (some ⟨g2, 0, none⟩) 8 8] 25)) w4.heap.size 3 (t3 (.int .i64 D.now) (.slice (some ⟨g1, 0, none⟩) 8 8) (.slice (some ⟨g2, 0, none⟩) 8 8)) ∧ Ty (w4.alloc (.cells #[.int .i64 D.now, .slice (some ⟨g1, 0, none⟩) 8 8, .slice (some ⟨g2, 0, none⟩) 8 8] 25)) w4.heap.size 25) := ⟨box3 w4 _ _ _ 25, ⟨_, heap_alloc_new w4 _⟩⟩
        have HO : Hid (OW w1.heap.size g1 g2 (rows16 D) P C (w4.alloc (.cells #[.int .i64 D.now, .slice (some ⟨g1, 0, none⟩) 8 8, .slice (some ⟨g2, 0, none⟩) 8 8] 25)) ∧ g1 < w4.heap.size ∧ g2 < w4.heap.size ∧ W0.heap.size ≤ w1.heap.size ∧ W0.heap.size ≤ g1 ∧ W0.heap.size ≤ g2 ∧ w1.heap.size ≤ w4.heap.size) := ⟨hE.out.1.blw hba, hE.out.1.n.lt, hE.out.1.f.lt, hb3, by have h5 := hE.out.1.lo1; omega, by have h5 := hE.out.1.lo2; omega, hE.out.2.size⟩
        have HB5 : Hid (Blw W0 (w4.alloc (.cells #[.int .i64 D.now, .slice (some ⟨g1, 0, none⟩) 8 8, .slice (some ⟨g2, 0, none⟩) 8 8] 25))) := hbw4.trans hba
        have HTR : Hid (TR [] (rows16 D)) := G.out.g.tr G.out.now.1 G.out.now.2
        have HSZ5 : Hid ((w4.alloc (.cells #[.int .i64 D.now, .slice (some ⟨g1, 0, none⟩) 8 8, .slice (some ⟨g2, 0, none⟩) 8 8] 25)).heap.size = w4.heap.size + 1) := World.size_alloc ..
        have HRO : Hid (∀ k, 16 ≤ k → rows16 D k = []) := fun k hk => rows16_out D k hk
        obtain ⟨zb, hzb⟩ : ∃ zb, w4.heap.size = zb := ⟨_, rfl⟩
        rw [hzb] at HZ HO HSZ5
        have hwo : w1.heap.size ≤ zb := by have h5 := HO.out; omega
        generalize w4.alloc (.cells #[.int .i64 D.now, .slice (some ⟨g1, 0, none⟩) 8 8, .slice (some ⟨g2, 0, none⟩) 8 8] 25) = W5 at *
        rw [hzb]
        clear hE hba hzb hbw4 hb3 HOW HAL HHA hall2
        obtain ⟨R0, hR0⟩ : ∃ x, rows16 D = x := ⟨_, rfl⟩
        have HR00 : Hid (rows16 D = R0) := hR0
        rw [hR0] at HTR HO HRO
        clear hR0
        obtain ⟨T, rfl⟩ : ∃ T : Nat, t = (T : Int) := ⟨t.toNat, by have h5 := I1.out; omega⟩
        have hT100 : T ≤ 100 := by have h5 := I1.out; omega
        have HI0 : Hid (OW w1.heap.size g1 g2 R0 P C W5 ∧ Row W5 zb 3 (t3 (.int .i64 D.now) (.slice (some ⟨g1, 0, none⟩) 8 8) (.slice (some ⟨g2, 0, none⟩) 8 8)) ∧ Ty W5 zb 25 ∧ Blw W0 W5) := ⟨HO.out.1, HZ.out.1, HZ.out.2, HB5.out⟩
        have HN : Hid (g1 < zb ∧ g2 < zb ∧ W0.heap.size ≤ w1.heap.size ∧ W0.heap.size ≤ g1 ∧ W0.heap.size ≤ g2 ∧ w1.heap.size ≤ zb ∧ W5.heap.size = zb + 1) := ⟨HO.out.2.1, HO.out.2.2.1, HO.out.2.2.2.1, HO.out.2.2.2.2.1, HO.out.2.2.2.2.2.1, HO.out.2.2.2.2.2.2, HSZ5.out⟩
        clear HO HZ HB5 HSZ5 hwo
        go_upto_region 5 with fail
        go_loopw [1, 8] (fun s1 s8 wr => ∃ (j r : Nat) (P : Nat → Option Addr) (C : Nat → Nat) (ao : Option Addr) (c m : Nat), j + r = T ∧ s1 = .int .i64 r ∧ s8 = .slice ao m c ∧ Hid (m = (runI D.now R0 j).length ∧ OW w1.heap.size g1 g2 (runR D.now R0 j) P C wr ∧ Row wr zb 3 (t3 (.int .i64 (D.now + j)) (.slice (some ⟨g1, 0, none⟩) 8 8) (.slice (some ⟨g2, 0, none⟩) 8 8)) ∧ Ty wr zb 25 ∧ BufI (fun b => zb < b) wr (.slice ao m c) m (gi (runI D.now R0 j)) ∧ Blw W0 wr ∧ W5.heap.size ≤ wr.heap.size)) (fun s1 _ _ => (intOf s1).toNat)
        case atStart => exact ⟨0, T, P, C, none, 0, 0, by omega, rfl, rfl, rfl, HI0.out.1, by have h5 := HI0.out.2.1; rw [show D.now = D.now + ((0 : Nat) : Int) by omega] at h5; exact h5, HI0.out.2.2.1, Buf.nil _ _ _ _ _, HI0.out.2.2.2, Nat.le_refl _⟩
        case round =>
          clear HI0
          obtain ⟨j, r, P, C, ao, c, m, hjr, rfl, rfl, hI⟩ := hrel
          by_cases hlt : 0 < r
          · have hlt' : (0 : Int) < r := by omega
            have hwr1 : IntKind.i64.wrap ((r : Int) - 1) = ((r - 1 : Nat) : Int) := by rw [IntKind.wrap_i64]; omega
            have htr := HTR.out.run D.now j
            have hn9 := G.out.now
            have hls : w1.heap.size ≤ wr.heap.size := by have h5 := HN.out; have h6 := hI.out.2.2.2.2.2.2; omega
            have HTK : Hid (Calls Try.prog 54 #[.agg #[.int .i64 (D.now + j), .slice (some ⟨g1, 0, none⟩) 8 8, .slice (some ⟨g2, 0, none⟩) 8 8]] wr (STickPost w1.heap.size g1 g2 (D.now + j + 1) (runR D.now R0 j) wr)) := specTick_any _ _ _ _ _ _ _ _ hI.out.2.1 hls htr (by omega) (by have h5 := I3.out; omega)
            have HLI : Hid ((runI D.now R0 j).length ≤ 20 * j ∧ (tickIds (D.now + j + 1) (runR D.now R0 j)).length ≤ 20) := ⟨HTR.out.runI D.now j, htr.ids _⟩
            obtain ⟨z0, z1, z2⟩ := get3 hI.out.2.2.1
            clear htr hn9 hls
            go_wp2_with fail
            clear z0 z1 z2
            refine HTK.out.mono ?_
            rintro e w5 ⟨a5, c5, m5, rfl, hE⟩
            obtain ⟨hm5, hi5, ⟨P', C', hW5⟩, hmo5⟩ := hE.out
            obtain ⟨hm0, hW0, hz0, hty0, hB0, hbl0, hsz0⟩ := hI.out
            have hn := HN.out
            have hal : Blw w5 (w5.alloc (.cells #[.int .i64 (D.now + j + 1), .slice (some ⟨g1, 0, none⟩) 8 8, .slice (some ⟨g2, 0, none⟩) 8 8] 25)) := (Blw.refl _).alloc _
            obtain ⟨y0, y1, y2⟩ := get3 (box3 w5 (.int .i64 (D.now + j + 1)) (.slice (some ⟨g1, 0, none⟩) 8 8) (.slice (some ⟨g2, 0, none⟩) 8 8) 25)
            have hz6 := (hz0.mod hmo5 (fun e => by omega)).blw hal
            have hty6 := (hty0.mod hmo5 (fun e => by omega)).blw hal
            obtain ⟨e0, e1, e2⟩ := get3 hz6
            have hf0 := hz6.frozen 0
            have hf1 := hz6.frozen 1
            have hf2 := hz6.frozen 2
            have hm6 : Mod (fun b => b = g1 ∨ b = g2) wr (w5.alloc (.cells #[.int .i64 (D.now + j + 1), .slice (some ⟨g1, 0, none⟩) 8 8, .slice (some ⟨g2, 0, none⟩) 8 8] 25)) := hmo5.trans (hal.mod _)
            have HX6 : Hid (OW w1.heap.size g1 g2 (tickR (D.now + j + 1) (runR D.now R0 j)) P' C' (w5.alloc (.cells #[.int .i64 (D.now + j + 1), .slice (some ⟨g1, 0, none⟩) 8 8, .slice (some ⟨g2, 0, none⟩) 8 8] 25)) ∧ Row (w5.alloc (.cells #[.int .i64 (D.now + j + 1), .slice (some ⟨g1, 0, none⟩) 8 8, .slice (some ⟨g2, 0, none⟩) 8 8] 25)) zb 3 (t3 (.int .i64 (D.now + j)) (.slice (some ⟨g1, 0, none⟩) 8 8) (.slice (some ⟨g2, 0, none⟩) 8 8)) ∧ Ty (w5.alloc (.cells #[.int .i64 (D.now + j + 1), .slice (some ⟨g1, 0, none⟩) 8 8, .slice (some ⟨g2, 0, none⟩) 8 8] 25)) zb 25 ∧ BufI (fun b => zb < b) (w5.alloc (.cells #[.int .i64 (D.now + j + 1), .slice (some ⟨g1, 0, none⟩) 8 8, .slice (some ⟨g2, 0, none⟩) 8 8] 25)) (.slice ao m c) m (gi (runI D.now R0 j)) ∧ IntsAt (fun b => zb < b) (w5.alloc (.cells #[.int .i64 (D.now + j + 1), .slice (some ⟨g1, 0, none⟩) 8 8, .slice (some ⟨g2, 0, none⟩) 8 8] 25)) a5 m5 (gi (tickIds (D.now + j + 1) (runR D.now R0 j))) ∧ Blw W0 (w5.alloc (.cells #[.int .i64 (D.now + j + 1), .slice (some ⟨g1, 0, none⟩) 8 8, .slice (some ⟨g2, 0, none⟩) 8 8] 25)) ∧ W5.heap.size ≤ (w5.alloc (.cells #[.int .i64 (D.now + j + 1), .slice (some ⟨g1, 0, none⟩) 8 8, .slice (some ⟨g2, 0, none⟩) 8 8] 25)).heap.size ∧ m = (runI D.now R0 j).length ∧ m5 = (tickIds (D.now + j + 1) (runR D.now R0 j)).length) :=
              ⟨hW5.blw hal, hz6, hty6, Buf.mod hB0 hm6 (fun b hb e => by omega), (hi5.mono (fun b hb => by omega)).blw hal, Mod.blw hbl0 hm6 (fun i e => by omega), Nat.le_trans hsz0 hm6.size, hm0, hm5⟩
            clear hE hm5 hi5 hW5 hmo5 hm0 hW0 hz0 hty0 hB0 hbl0 hsz0 hI HTK hal hz6 hty6 hm6 hn
            go_upto_region 8 with fail
            generalize w5.alloc (.cells #[.int .i64 (D.now + j + 1), .slice (some ⟨g1, 0, none⟩) 8 8, .slice (some ⟨g2, 0, none⟩) 8 8] 25) = W6 at *
            go_upto_region 9 with fail
            clear y0 y1 y2 hf0 hf1 hf2 e0 e1 e2
            have HX7 : Hid (OW w1.heap.size g1 g2 (tickR (D.now + j + 1) (runR D.now R0 j)) P' C' (((W6.setCell ⟨zb, 0, none⟩ (.int .i64 (D.now + j + 1))).setCell ⟨zb, 1, none⟩ (.slice (some ⟨g1, 0, none⟩) 8 8)).setCell ⟨zb, 2, none⟩ (.slice (some ⟨g2, 0, none⟩) 8 8)) ∧ Row (((W6.setCell ⟨zb, 0, none⟩ (.int .i64 (D.now + j + 1))).setCell ⟨zb, 1, none⟩ (.slice (some ⟨g1, 0, none⟩) 8 8)).setCell ⟨zb, 2, none⟩ (.slice (some ⟨g2, 0, none⟩) 8 8)) zb 3 (t3 (.int .i64 (D.now + j + 1)) (.slice (some ⟨g1, 0, none⟩) 8 8) (.slice (some ⟨g2, 0, none⟩) 8 8)) ∧ Ty (((W6.setCell ⟨zb, 0, none⟩ (.int .i64 (D.now + j + 1))).setCell ⟨zb, 1, none⟩ (.slice (some ⟨g1, 0, none⟩) 8 8)).setCell ⟨zb, 2, none⟩ (.slice (some ⟨g2, 0, none⟩) 8 8)) zb 25 ∧ BufI (fun b => zb < b) (((W6.setCell ⟨zb, 0, none⟩ (.int .i64 (D.now + j + 1))).setCell ⟨zb, 1, none⟩ (.slice (some ⟨g1, 0, none⟩) 8 8)).setCell ⟨zb, 2, none⟩ (.slice (some ⟨g2, 0, none⟩) 8 8)) (.slice ao m c) m (gi (runI D.now R0 j)) ∧ IntsAt (fun b => zb < b) (((W6.setCell ⟨zb, 0, none⟩ (.int .i64 (D.now + j + 1))).setCell ⟨zb, 1, none⟩ (.slice (some ⟨g1, 0, none⟩) 8 8)).setCell ⟨zb, 2, none⟩ (.slice (some ⟨g2, 0, none⟩) 8 8)) a5 m5 (gi (tickIds (D.now + j + 1) (runR D.now R0 j))) ∧ Blw W0 (((W6.setCell ⟨zb, 0, none⟩ (.int .i64 (D.now + j + 1))).setCell ⟨zb, 1, none⟩ (.slice (some ⟨g1, 0, none⟩) 8 8)).setCell ⟨zb, 2, none⟩ (.slice (some ⟨g2, 0, none⟩) 8 8)) ∧ W5.heap.size ≤ (((W6.setCell ⟨zb, 0, none⟩ (.int .i64 (D.now + j + 1))).setCell ⟨zb, 1, none⟩ (.slice (some ⟨g1, 0, none⟩) 8 8)).setCell ⟨zb, 2, none⟩ (.slice (some ⟨g2, 0, none⟩) 8 8)).heap.size ∧ m = (runI D.now R0 j).length ∧ m5 = (tickIds (D.now + j + 1) (runR D.now R0 j)).length) := by
              obtain ⟨q1, q2, q3, q4, q5, q6, q7, q8, q9⟩ := HX6.out
              have mS := set3_mod (X := fun b => b = zb) W6 rfl (.int .i64 (D.now + j + 1)) (.slice (some ⟨g1, 0, none⟩) 8 8) (.slice (some ⟨g2, 0, none⟩) 8 8)
              have hn := HN.out
              exact ⟨q1.modY (t := 25) (by decide) mS (fun b e => by subst e; exact ⟨q3, by omega, by omega⟩), set3_2 (set3_1 (set3_0 q2 _) _) _, ((q3.set 0 _).set 1 _).set 2 _, Buf.mod q4 mS (fun b hb e => by omega), q5.mod mS (fun b hb e => by omega), Mod.blw q6 mS (fun i e => by omega), Nat.le_trans q7 mS.size, q8, q9⟩
            generalize ((W6.setCell ⟨zb, 0, none⟩ (.int .i64 (D.now + j + 1))).setCell ⟨zb, 1, none⟩ (.slice (some ⟨g1, 0, none⟩) 8 8)).setCell ⟨zb, 2, none⟩ (.slice (some ⟨g2, 0, none⟩) 8 8) = W7 at *
            obtain ⟨q1, q2, q3, q4, q5, q6, q7, q8, q9⟩ := HX7.out
            obtain ⟨l1, l2⟩ := HLI.out
            obtain ⟨a6, c6, w6, hrun, hB6, hm6⟩ := BufI.append q4 c5 q5 (by omega) 28
            have hx5 : ∀ b, (Value.slice ao m c).ownBlock = some b → zb < b := q4.2
            have HNX : Hid (m + m5 = (runI D.now R0 (j + 1)).length ∧ OW w1.heap.size g1 g2 (runR D.now R0 (j + 1)) P' C' w6 ∧ Row w6 zb 3 (t3 (.int .i64 (D.now + ((j + 1 : Nat) : Int))) (.slice (some ⟨g1, 0, none⟩) 8 8) (.slice (some ⟨g2, 0, none⟩) 8 8)) ∧ Ty w6 zb 25 ∧ BufI (fun b => zb < b) w6 (.slice a6 (m + m5) c6) (m + m5) (gi (runI D.now R0 (j + 1))) ∧ Blw W0 w6 ∧ W5.heap.size ≤ w6.heap.size) := by
              have hn := HN.out
              refine ⟨?_, q1.modY (t := 3) (by decide) hm6 (fun b e => ⟨q4.ty e, ?_, ?_⟩), ?_, q3.mod hm6 (fun e => ?_), (hB6.congr (fun i hi => ?_)).mono (fun b hb => ?_), Mod.blw q6 hm6 (fun i e => ?_), Nat.le_trans q7 hm6.size⟩
              · rw [q8, q9]; simp [runI]
              · have h5 := hx5 b e; omega
              · have h5 := hx5 b e; omega
              · rw [show D.now + ((j + 1 : Nat) : Int) = D.now + j + 1 by omega]
                exact q2.mod hm6 (fun e => by have h5 := hx5 zb e; omega)
              · have h5 := hx5 zb e; omega
              · simp only [ic, icat, runI, gi_app, q8]
              · rcases hb.1 with h6 | h6
                · exact h6
                · omega
              · have h5 := hx5 i e; omega
            clear q1 q2 q3 q4 q5 q6 q7 q8 q9 l1 l2 hB6 hm6 hx5 HX7 HX6 HLI
            go_wp2_with (at_builtin; refine wpList_append_run rfl _ _ 28 rfl _ _ rfl rfl hrun ?_)
            go_roundw
            case rel => exact ⟨j + 1, r - 1, P', C', a6, c6, m + m5, by omega, by first | rfl | (rw [hwr1]) | (congr 1; omega), rfl, HNX.out⟩
            case measure => simp [intOf]; omega
          · obtain rfl : r = 0 := by omega
            obtain rfl : j = T := by omega
            obtain ⟨hm0, hW0, hz0, hty0, hB0, hbl0, hsz0⟩ := hI.out
            have htr := HTR.out.run D.now j
            have hn := HN.out
            obtain ⟨z0, z1, z2⟩ := get3 hz0
            have HR3 : Hid (Row wr Wa.heap.size 3 (t3 (.int .i64 0) (.slice none 0 0) (.slice none 0 0))) := HR1.out.blw hbl0
            have HGO : Hid (Calls Try.prog 53 #[.agg #[.int .i64 (D.now + j), .slice (some ⟨g1, 0, none⟩) 8 8, .slice (some ⟨g2, 0, none⟩) 8 8]] wr fun e w' => ∃ k1 k2 P' C', e = .returned (.agg #[.int .i64 (D.now + j), .slice (some ⟨k1, 0, none⟩) 8 8, .slice (some ⟨k2, 0, none⟩) 8 8]) ∧ w'.cell? ⟨Wa.heap.size, 0, none⟩ = some (.int .i64 0) ∧ w'.cell? ⟨Wa.heap.size, 1, none⟩ = some (.slice none 0 0) ∧ w'.cell? ⟨Wa.heap.size, 2, none⟩ = some (.slice none 0 0) ∧ w'.frozen? ⟨Wa.heap.size, 0, none⟩ = false ∧ w'.frozen? ⟨Wa.heap.size, 1, none⟩ = false ∧ w'.frozen? ⟨Wa.heap.size, 2, none⟩ = false ∧ Hid (OW wr.heap.size k1 k2 (runR D.now R0 j) P' C' w' ∧ Blw wr w' ∧ Row w' Wa.heap.size 3 (t3 (.int .i64 0) (.slice none 0 0) (.slice none 0 0)))) := by
              refine (l11Own_any ⟨some ⟨g1, 0, none⟩, some ⟨g2, 0, none⟩, 8, 8⟩ (D.now + j) (pdn 8 (runR D.now R0 j)) (pdn 8 (fun k => runR D.now R0 j (8 + k))) (runR D.now R0 j) _ wr rfl rfl (hW0.rows (D.now + j) (fun k hk => by have h5 := htr.rowlen hk; omega)) (fun k hk => by have h5 := htr.rowlen hk; omega) (fun k hk => by rw [runR_out _ _ _ hk]; exact HRO.out k hk)).mono ?_
              rintro e w' ⟨k1, k2, P', C', rfl, hE⟩
              have r9 := (HR3.out).blw hE.out.2
              obtain ⟨t0, t1, t2⟩ := get3 r9
              exact ⟨k1, k2, P', C', rfl, t0, t1, t2, r9.frozen 0, r9.frozen 1, r9.frozen 2, hE.out.1, hE.out.2, r9⟩
            clear hm0 hW0 hB0 hbl0 htr hz0 hty0 hsz0 hn a0 a1 a2 b0 b1 b2 f0 f1 f2
            go_wp2_with (first | (go_at_call 53; refine HGO.out.mono ?_; rintro e W2 ⟨k1, k2, P', C', rfl, q0, q1, q2, f0, f1, f2, hE⟩) | fail)
            have r9 := set3_2 (set3_1 (set3_0 hE.out.2.2 (.int .i64 (D.now + j))) (.slice (some ⟨k1, 0, none⟩) 8 8)) (.slice (some ⟨k2, 0, none⟩) 8 8)
            obtain ⟨u0, u1, u2⟩ := get3 r9
            have mS := set3_mod (X := fun b => b = Wa.heap.size) W2 rfl (.int .i64 (D.now + j)) (.slice (some ⟨k1, 0, none⟩) 8 8) (.slice (some ⟨k2, 0, none⟩) 8 8)
            refine bodyPost_ret (v := .tuple #[.agg #[.int .i64 (D.now + j), .slice (some ⟨k1, 0, none⟩) 8 8, .slice (some ⟨k2, 0, none⟩) 8 8], .slice ao m c, .bool true]) (by rw [results_cell_tmp2 rfl]; simp [asAddr, Result.andThen, go_sem, u0, u1, u2]) rfl ?_
            obtain ⟨hm0, hW0, hz0, hty0, hB0, hbl0, hsz0⟩ := hI.out
            have htr := HTR.out.run D.now j
            have hli := HTR.out.runI D.now j
            have hsB := HB.out.2.2.1
            have hle := HB.out.2.1
            have hm5 := mS.size
            have hs0 := hbl0.size
            have hs2 := hE.out.2.1.size
            have hn := HN.out
            have hww := HB.out.1.size
            obtain ⟨ao2, cap2, ee, hown⟩ := BufI.own hB0 (by omega)
            simp only [Value.slice.injEq] at ee
            obtain ⟨rfl, -, rfl⟩ := ee
            have hO9 := (hE.out.1.mod mS (fun b hb e => by omega)).own (D.now + j) (fun k hk => by have h5 := htr.rowlen hk; omega)
            have hblt : ∀ b, ao = some ⟨b, 0, none⟩ → b < wr.heap.size := fun b e => (hB0.ty (b := b) (by rw [e]; simp [Value.ownBlock])).lt
            have htl := htr.len
            have hown9 := (hown.exact.blw hE.out.2.1).mod mS (fun b hb e => by have h5 := hb.1; omega)
            refine ⟨⟨some ⟨k1, 0, none⟩, some ⟨k2, 0, none⟩, 8, 8⟩, wd8 (D.now + j) (runR D.now R0 j), ao, c, m, runI D.now R0 j, true, rfl, hm0, Or.inl ⟨⟨G.out, I1.out.1, I1.out.2, I3.out⟩, by rw [HR00.out]; rfl, by rw [HR00.out]; rfl, rfl⟩, small8 (by simp only [List.nil_append] at htl; omega), by omega, hO9.mono (fun b hb => ⟨⟨by omega, hb.2⟩, fun e => by have h5 := hblt b e; omega⟩), ?_, Mod.blw ((HB.out.1.trans hbl0).trans hE.out.2.1) mS (fun i e => by omega)⟩
            rw [← hm0]
            exact hown9.mono (fun b hb => ⟨⟨by have h5 := hb.1; omega, by have h5 := hblt b hb.2; omega⟩, hb.2⟩)
      · have I3 : Hid (¬ D.now + t ≤ 1000) := i3
        have hd : decide (D.now + t > 1000) = true := decide_eq_true (by omega)
        clear i1 i3 hgn
        go_enter Try.func14, Try.ntmps14
        go_upto_region 1 with fail
        try simp only [hWa, hW0]
        clear hWa hW0 r0 ra r1
        go_wp2_with (first | (go_at_call 38; refine HGD.out.mono ?_; rintro e w1 ⟨q1, rfl, hq1, hbw1⟩; obtain rfl : q1 = true := hq1.2 G.out; clear hq1) | (go_at_call_of 52 (Value.int .i64 (100 : Int)); refine (l1In_yes t 0 100 _ I1.out.1 I1.out.2).mono ?_; rintro e w' ⟨rfl, hw⟩; replace hw := hw.symm; subst hw) | fail)
        have hBX := hbw1
        have r9 := set3_2 (set3_1 (set3_0 (HR1.out.blw hBX) (.int .i64 0)) (.slice none 0 0)) (.slice none 0 0)
        obtain ⟨u0, u1, u2⟩ := get3 r9
        have mS := set3_mod (X := fun b => b = Wa.heap.size) w1 rfl (.int .i64 0) (.slice none 0 0) (.slice none 0 0)
        clear a0 a1 a2 b0 b1 b2 f0 f1 f2
        refine bodyPost_ret (v := .tuple #[.agg #[.int .i64 0, .slice none 0 0, .slice none 0 0], .slice none 0 0, .bool false]) (by rw [results_cell_tmp2 rfl]; simp [asAddr, Result.andThen, go_sem, u0, u1, u2]) rfl ?_
        have hle := HB.out.2.1
        exact ⟨WV.zero, WD.zero, none, 0, 0, [], false, rfl, rfl, Or.inr ⟨fun hp => by have h5 := I3.out; have h6 := hp.2.2.2; omega, rfl, rfl, rfl⟩, small_zero, by simp, WOwn.zero _ _, IntsOwn.nil _ _ _ _, Mod.blw (HB.out.1.trans hBX) mS (fun i e => by omega)⟩
    · have I1 : Hid (¬ (0 ≤ t ∧ t ≤ 100)) := i1
      clear i1 hgn
      go_enter Try.func14, Try.ntmps14
      go_upto_region 1 with fail
      try simp only [hWa, hW0]
      clear hWa hW0 r0 ra r1
      go_wp2_with (first | (go_at_call 38; refine HGD.out.mono ?_; rintro e w1 ⟨q1, rfl, hq1, hbw1⟩; obtain rfl : q1 = true := hq1.2 G.out; clear hq1) | (go_at_call_of 52 (Value.int .i64 (100 : Int)); refine (l1In_no t 0 100 _ I1.out).mono ?_; rintro e w' ⟨rfl, hw⟩; replace hw := hw.symm; subst hw) | fail)
      have hBX := hbw1
      have r9 := set3_2 (set3_1 (set3_0 (HR1.out.blw hBX) (.int .i64 0)) (.slice none 0 0)) (.slice none 0 0)
      obtain ⟨u0, u1, u2⟩ := get3 r9
      have mS := set3_mod (X := fun b => b = Wa.heap.size) w1 rfl (.int .i64 0) (.slice none 0 0) (.slice none 0 0)
      clear a0 a1 a2 b0 b1 b2 f0 f1 f2
      refine bodyPost_ret (v := .tuple #[.agg #[.int .i64 0, .slice none 0 0, .slice none 0 0], .slice none 0 0, .bool false]) (by rw [results_cell_tmp2 rfl]; simp [asAddr, Result.andThen, go_sem, u0, u1, u2]) rfl ?_
      have hle := HB.out.2.1
      exact ⟨WV.zero, WD.zero, none, 0, 0, [], false, rfl, rfl, Or.inr ⟨fun hp => I1.out ⟨hp.2.1, hp.2.2.1⟩, rfl, rfl, rfl⟩, small_zero, by simp, WOwn.zero _ _, IntsOwn.nil _ _ _ _, Mod.blw (HB.out.1.trans hBX) mS (fun i e => by omega)⟩
  · have NG : Hid (¬ GoodD D) := hg
    clear hg
    go_enter Try.func14, Try.ntmps14
    go_upto_region 1 with fail
    try simp only [hWa, hW0]
    clear hWa hW0 r0 ra r1
    go_wp2_with (first | (go_at_call 38; refine HGD.out.mono ?_; rintro e w1 ⟨q1, rfl, hq1, hbw1⟩; obtain rfl : q1 = false := (by cases q1; rfl; exact absurd (hq1.1 rfl) NG.out); clear hq1) | fail)
    have hBX := hbw1
    have r9 := set3_2 (set3_1 (set3_0 (HR1.out.blw hBX) (.int .i64 0)) (.slice none 0 0)) (.slice none 0 0)
    obtain ⟨u0, u1, u2⟩ := get3 r9
    have mS := set3_mod (X := fun b => b = Wa.heap.size) w1 rfl (.int .i64 0) (.slice none 0 0) (.slice none 0 0)
    clear a0 a1 a2 b0 b1 b2 f0 f1 f2
    refine bodyPost_ret (v := .tuple #[.agg #[.int .i64 0, .slice none 0 0, .slice none 0 0], .slice none 0 0, .bool false]) (by rw [results_cell_tmp2 rfl]; simp [asAddr, Result.andThen, go_sem, u0, u1, u2]) rfl ?_
    have hle := HB.out.2.1
    exact ⟨WV.zero, WD.zero, none, 0, 0, [], false, rfl, rfl, Or.inr ⟨fun hp => NG.out hp.1, rfl, rfl, rfl⟩, small_zero, by simp, WOwn.zero _ _, IntsOwn.nil _ _ _ _, Mod.blw (HB.out.1.trans hBX) mS (fun i e => by omega)⟩
end Go.Proofs.Ytkmkidahaagbpaa
