/- TickWheel of both. -/
import Derived.Test.YtkmkidahaagbpaaSRun
namespace Go.Proofs.Ytkmkidahaagbpaa
open Go.RowKit
set_option linter.unusedSimpArgs false
set_option linter.unusedVariables false
set_option maxRecDepth 10000 in
set_option maxHeartbeats 1600000 in
theorem implTickW_any (v : WV) (D : WD) (Y : Nat → Prop) (w : World) (h : WAt Y w v D) (hY : ∀ b, Y b → b < w.heap.size) (hwf : D.wf) : Calls Try.prog 22 #[v.val D] w (GivesWI (runOut D 1) w) := by
  have hb0 : Blw w (w.alloc (.cells #[.int .i64 D.now, .slice v.a1 D.N.n v.c1, .slice v.a2 D.F.n v.c2] 25)) := (Blw.refl _).alloc _
  have r0 := box3 w (.int .i64 D.now) (.slice v.a1 D.N.n v.c1) (.slice v.a2 D.F.n v.c2) 25
  obtain ⟨Wa, hWa⟩ : ∃ Wa, w.alloc (.cells #[.int .i64 D.now, .slice v.a1 D.N.n v.c1, .slice v.a2 D.F.n v.c2] 25) = Wa := ⟨_, rfl⟩
  rw [hWa] at hb0 r0
  have hsa : Wa.heap.size = w.heap.size + 1 := by rw [← hWa, World.size_alloc]
  have hb1 : Blw Wa (Wa.alloc (.cells #[.int .i64 0, .slice none 0 0, .slice none 0 0] 25)) := (Blw.refl _).alloc _
  have r1 := box3 Wa (.int .i64 0) (.slice none 0 0) (.slice none 0 0) 25
  have ra := r0.blw hb1
  obtain ⟨W0, hW0⟩ : ∃ W0, Wa.alloc (.cells #[.int .i64 0, .slice none 0 0, .slice none 0 0] 25) = W0 := ⟨_, rfl⟩
  rw [hW0] at hb1 r1 ra
  have hRU : Calls Try.prog 13 #[v.val D, .int .i64 1] W0 (GivesWI (runOut D 1) W0) := implRun_any v D 1 Y W0 ((h.blw hb0).blw hb1) (fun b hb => by have h5 := hY b hb; have h6 := (hb0.trans hb1).size; omega) hwf
  have HB : Hid (Blw w W0 ∧ w.heap.size ≤ Wa.heap.size ∧ Wa.heap.size < W0.heap.size) := ⟨hb0.trans hb1, by omega, r1.lt⟩
  have HR1 : Hid (Row W0 Wa.heap.size 3 (t3 (.int .i64 0) (.slice none 0 0) (.slice none 0 0))) := r1
  have HCL : Hid (Calls Try.prog 13 #[v.val D, .int .i64 1] W0 fun e w' => ∃ (u : WV) (R : WD) (ao : Option Addr) (c m : Nat) (l : List Int) (b : Bool), e = .returned (.tuple #[u.val R, .slice ao m c, .bool b]) ∧ w'.cell? ⟨Wa.heap.size, 0, none⟩ = some (.int .i64 0) ∧ w'.cell? ⟨Wa.heap.size, 1, none⟩ = some (.slice none 0 0) ∧ w'.cell? ⟨Wa.heap.size, 2, none⟩ = some (.slice none 0 0) ∧ w'.frozen? ⟨Wa.heap.size, 0, none⟩ = false ∧ w'.frozen? ⟨Wa.heap.size, 1, none⟩ = false ∧ w'.frozen? ⟨Wa.heap.size, 2, none⟩ = false ∧ Hid (m = l.length ∧ runOut D 1 R l b ∧ R.small ∧ l.length ≤ 2000 ∧
    WOwn (fun x => (W0.heap.size ≤ x ∧ x < w'.heap.size) ∧ ao ≠ some ⟨x, 0, none⟩) w' u R ∧ IntsOwn (fun x => (W0.heap.size ≤ x ∧ x < w'.heap.size) ∧ ao = some ⟨x, 0, none⟩) w' ao l.length (gi l) ∧ Blw W0 w' ∧ Row w' Wa.heap.size 3 (t3 (.int .i64 0) (.slice none 0 0) (.slice none 0 0)))) := by
    refine hRU.mono ?_
    rintro e w' ⟨u, R, ao, c, m, l, b, rfl, h1, h2, h3, h4, h5, h6, h7⟩
    have r9 := (HR1.out).blw h7
    obtain ⟨t0, t1, t2⟩ := get3 r9
    exact ⟨u, R, ao, c, m, l, b, rfl, t0, t1, t2, r9.frozen 0, r9.frozen 1, r9.frozen 2, h1, h2, h3, h4, h5, h6, h7, r9⟩
  clear h hb0 hb1 hsa hRU
  go_enter Try.func22, Try.ntmps22
  go_upto_region 1 with fail
  try simp only [hWa, hW0]
  obtain ⟨c0, c1, c2⟩ := get3 ra
  clear hWa hW0 r0 ra r1
  go_wp2_with (first | (go_at_call 13; refine HCL.out.mono ?_; rintro e W2 ⟨u, R, ao, c, m, l, b, rfl, q0, q1, q2, f0, f1, f2, hE⟩) | fail)
  obtain ⟨h1, h2, h3, h4, h5, h6, h7, h8⟩ := hE.out
  have r9 := set3_2 (set3_1 (set3_0 h8 (.int .i64 R.now)) (.slice u.a1 R.N.n u.c1)) (.slice u.a2 R.F.n u.c2)
  obtain ⟨u0, u1, u2⟩ := get3 r9
  have mS := set3_mod (X := fun b => b = Wa.heap.size) W2 rfl (.int .i64 R.now) (.slice u.a1 R.N.n u.c1) (.slice u.a2 R.F.n u.c2)
  refine bodyPost_ret (v := .tuple #[.agg #[.int .i64 R.now, .slice u.a1 R.N.n u.c1, .slice u.a2 R.F.n u.c2], .slice ao m c, .bool b]) (by rw [results_cell_tmp2 rfl]; simp [asAddr, Result.andThen, go_sem, u0, u1, u2]) rfl ?_
  have hsB := HB.out.2.2
  have hle := HB.out.2.1
  have hm5 := mS.size
  have hww := HB.out.1.size
  exact ⟨u, R, ao, c, m, l, b, rfl, h1, h2, h3, h4, (h5.mod mS (fun b hb e => by have h9 := hb.1; omega)).mono (fun b hb => ⟨⟨by have h9 := hb.1; omega, by have h9 := hb.1; omega⟩, hb.2⟩), (h6.mod mS (fun b hb e => by have h9 := hb.1; omega)).mono (fun b hb => ⟨⟨by have h9 := hb.1; omega, by have h9 := hb.1; omega⟩, hb.2⟩), Mod.blw (HB.out.1.trans h7) mS (fun i e => by omega)⟩
set_option maxRecDepth 10000 in
set_option maxHeartbeats 1600000 in
theorem specTickW_any (v : WV) (D : WD) (Y : Nat → Prop) (w : World) (h : WAt Y w v D) (hS : D.small) : Calls Try.prog 23 #[v.val D] w (GivesWI (runOut D 1) w) := by
  have hb0 : Blw w (w.alloc (.cells #[.int .i64 D.now, .slice v.a1 D.N.n v.c1, .slice v.a2 D.F.n v.c2] 25)) := (Blw.refl _).alloc _
  have r0 := box3 w (.int .i64 D.now) (.slice v.a1 D.N.n v.c1) (.slice v.a2 D.F.n v.c2) 25
  obtain ⟨Wa, hWa⟩ : ∃ Wa, w.alloc (.cells #[.int .i64 D.now, .slice v.a1 D.N.n v.c1, .slice v.a2 D.F.n v.c2] 25) = Wa := ⟨_, rfl⟩
  rw [hWa] at hb0 r0
  have hsa : Wa.heap.size = w.heap.size + 1 := by rw [← hWa, World.size_alloc]
  have hb1 : Blw Wa (Wa.alloc (.cells #[.int .i64 0, .slice none 0 0, .slice none 0 0] 25)) := (Blw.refl _).alloc _
  have r1 := box3 Wa (.int .i64 0) (.slice none 0 0) (.slice none 0 0) 25
  have ra := r0.blw hb1
  obtain ⟨W0, hW0⟩ : ∃ W0, Wa.alloc (.cells #[.int .i64 0, .slice none 0 0, .slice none 0 0] 25) = W0 := ⟨_, rfl⟩
  rw [hW0] at hb1 r1 ra
  have hRU : Calls Try.prog 14 #[v.val D, .int .i64 1] W0 (GivesWI (runOut D 1) W0) := specRun_any v D 1 Y W0 ((h.blw hb0).blw hb1) hS
  have HB : Hid (Blw w W0 ∧ w.heap.size ≤ Wa.heap.size ∧ Wa.heap.size < W0.heap.size) := ⟨hb0.trans hb1, by omega, r1.lt⟩
  have HR1 : Hid (Row W0 Wa.heap.size 3 (t3 (.int .i64 0) (.slice none 0 0) (.slice none 0 0))) := r1
  have HCL : Hid (Calls Try.prog 14 #[v.val D, .int .i64 1] W0 fun e w' => ∃ (u : WV) (R : WD) (ao : Option Addr) (c m : Nat) (l : List Int) (b : Bool), e = .returned (.tuple #[u.val R, .slice ao m c, .bool b]) ∧ w'.cell? ⟨Wa.heap.size, 0, none⟩ = some (.int .i64 0) ∧ w'.cell? ⟨Wa.heap.size, 1, none⟩ = some (.slice none 0 0) ∧ w'.cell? ⟨Wa.heap.size, 2, none⟩ = some (.slice none 0 0) ∧ w'.frozen? ⟨Wa.heap.size, 0, none⟩ = false ∧ w'.frozen? ⟨Wa.heap.size, 1, none⟩ = false ∧ w'.frozen? ⟨Wa.heap.size, 2, none⟩ = false ∧ Hid (m = l.length ∧ runOut D 1 R l b ∧ R.small ∧ l.length ≤ 2000 ∧
    WOwn (fun x => (W0.heap.size ≤ x ∧ x < w'.heap.size) ∧ ao ≠ some ⟨x, 0, none⟩) w' u R ∧ IntsOwn (fun x => (W0.heap.size ≤ x ∧ x < w'.heap.size) ∧ ao = some ⟨x, 0, none⟩) w' ao l.length (gi l) ∧ Blw W0 w' ∧ Row w' Wa.heap.size 3 (t3 (.int .i64 0) (.slice none 0 0) (.slice none 0 0)))) := by
    refine hRU.mono ?_
    rintro e w' ⟨u, R, ao, c, m, l, b, rfl, h1, h2, h3, h4, h5, h6, h7⟩
    have r9 := (HR1.out).blw h7
    obtain ⟨t0, t1, t2⟩ := get3 r9
    exact ⟨u, R, ao, c, m, l, b, rfl, t0, t1, t2, r9.frozen 0, r9.frozen 1, r9.frozen 2, h1, h2, h3, h4, h5, h6, h7, r9⟩
  clear h hb0 hb1 hsa hRU
  go_enter Try.func23, Try.ntmps23
  go_upto_region 1 with fail
  try simp only [hWa, hW0]
  obtain ⟨c0, c1, c2⟩ := get3 ra
  clear hWa hW0 r0 ra r1
  go_wp2_with (first | (go_at_call 14; refine HCL.out.mono ?_; rintro e W2 ⟨u, R, ao, c, m, l, b, rfl, q0, q1, q2, f0, f1, f2, hE⟩) | fail)
  obtain ⟨h1, h2, h3, h4, h5, h6, h7, h8⟩ := hE.out
  have r9 := set3_2 (set3_1 (set3_0 h8 (.int .i64 R.now)) (.slice u.a1 R.N.n u.c1)) (.slice u.a2 R.F.n u.c2)
  obtain ⟨u0, u1, u2⟩ := get3 r9
  have mS := set3_mod (X := fun b => b = Wa.heap.size) W2 rfl (.int .i64 R.now) (.slice u.a1 R.N.n u.c1) (.slice u.a2 R.F.n u.c2)
  refine bodyPost_ret (v := .tuple #[.agg #[.int .i64 R.now, .slice u.a1 R.N.n u.c1, .slice u.a2 R.F.n u.c2], .slice ao m c, .bool b]) (by rw [results_cell_tmp2 rfl]; simp [asAddr, Result.andThen, go_sem, u0, u1, u2]) rfl ?_
  have hsB := HB.out.2.2
  have hle := HB.out.2.1
  have hm5 := mS.size
  have hww := HB.out.1.size
  exact ⟨u, R, ao, c, m, l, b, rfl, h1, h2, h3, h4, (h5.mod mS (fun b hb e => by have h9 := hb.1; omega)).mono (fun b hb => ⟨⟨by have h9 := hb.1; omega, by have h9 := hb.1; omega⟩, hb.2⟩), (h6.mod mS (fun b hb e => by have h9 := hb.1; omega)).mono (fun b hb => ⟨⟨by have h9 := hb.1; omega, by have h9 := hb.1; omega⟩, hb.2⟩), Mod.blw (HB.out.1.trans h7) mS (fun i e => by omega)⟩
end Go.Proofs.Ytkmkidahaagbpaa
