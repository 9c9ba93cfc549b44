/- The wheel that is given out, and just which blocks are its own. -/
import Derived.Test.YtkmkidahaagbpaaGow
namespace Go.Proofs.Ytkmkidahaagbpaa
open Go.RowKit
set_option linter.unusedSimpArgs false
set_option linter.unusedVariables false
theorem wheel_ownX {lo g1 g2 : Nat} {now : Int} {R : Rws} {P : Nat → Option Addr} {C : Nat → Nat} {w : World} (c1 c2 : Nat) (h : HR lo R P C w) (hl : ∀ k, k < 16 → (R k).length ≤ 1000) (hr1 : Row w g1 8 (fun i => .slice (P i) (R i).length (C i))) (hr2 : Row w g2 8 (fun i => .slice (P (8 + i)) (R (8 + i)).length (C (8 + i))))
    (hg1 : ∀ k, k < 16 → P k ≠ some ⟨g1, 0, none⟩) (hg2 : ∀ k, k < 16 → P k ≠ some ⟨g2, 0, none⟩) (hne : g1 ≠ g2) : WOwn (fun x => x = g1 ∨ x = g2 ∨ ∃ k, k < 16 ∧ P k = some ⟨x, 0, none⟩) w ⟨some ⟨g1, 0, none⟩, some ⟨g2, 0, none⟩, c1, c2⟩ (wd8 now R) := by
  have k1 := rows_own h 0 (by omega) hl (hr1.congr (fun i hi => by simp)) hg1
  simp only [Nat.zero_add] at k1
  have k2 := rows_own h 8 (by omega) hl hr2 hg2
  refine ⟨_, _, fun b hb => ⟨?_, ?_⟩, fun b hb => ?_, k1, k2⟩
  · rcases hb with rfl | ⟨i, hi, e⟩
    · exact Or.inl rfl
    · exact Or.inr (Or.inr ⟨i, by omega, e⟩)
  · rintro (rfl | ⟨j, hj, e2⟩)
    · rcases hb with e | ⟨i, hi, e⟩
      · exact hne e.symm
      · exact hg2 i (by omega) e
    · rcases hb with rfl | ⟨i, hi, e⟩
      · exact hg1 (8 + j) (by omega) e2
      · exact h.dis i (8 + j) b (by omega) (by omega) (by omega) e e2
  · rcases hb with rfl | ⟨i, hi, e⟩
    · exact Or.inr (Or.inl rfl)
    · exact Or.inr (Or.inr ⟨8 + i, by omega, e⟩)
set_option maxRecDepth 100000 in
set_option maxHeartbeats 1600000 in
theorem giveOutX_any (lo z : Nat) (now : Int) (R : Rws) (P : Nat → Option Addr) (C : Nat → Nat) (w : World) (h : HW lo z now R P C w) (hlo : lo ≤ w.heap.size) (hl : ∀ k, k < 16 → (R k).length ≤ 1000) :
    Calls Try.prog 51 #[.pointer (some ⟨z, 0, none⟩)] w fun e w' => ∃ v : WV, e = .returned (v.val (wd8 now R)) ∧ Hid (WOwn (fun x => (∃ k, k < 16 ∧ P k = some ⟨x, 0, none⟩) ∨ (w.heap.size ≤ x ∧ x < w'.heap.size)) w' v (wd8 now R) ∧ Blw w w') := by
  have hb0 : Blw w (w.alloc (.cells #[.int .i64 0, .slice none 0 0, .slice none 0 0] 25)) := (Blw.refl _).alloc _
  have r0 := box3 w (.int .i64 0) (.slice none 0 0) (.slice none 0 0) 25
  obtain ⟨Wa, hWa⟩ : ∃ Wa, w.alloc (.cells #[.int .i64 0, .slice none 0 0, .slice none 0 0] 25) = Wa := ⟨_, rfl⟩
  rw [hWa] at hb0 r0
  have hbd : Blw Wa Wa.drew := (Blw.refl _).drew
  have HH : Hid (HW lo z now R P C Wa.drew) := (h.blw hb0).blw hbd
  have HR0 : Hid (Row Wa.drew w.heap.size 3 (t3 (.int .i64 0) (.slice none 0 0) (.slice none 0 0)) ∧ Blw w Wa.drew ∧ w.heap.size < Wa.drew.heap.size) := ⟨r0.blw hbd, hb0.trans hbd, (r0.blw hbd).lt⟩
  have hcl : ∀ (o : Nat) (W : World), o + 8 ≤ 16 → Blw Wa.drew W → Calls Try.prog 83 #[.slice (some ⟨z, 1 + o, none⟩) 8 (16 - o)] W fun e w' => ∃ g c', e = .returned (.slice (some ⟨g, 0, none⟩) 8 c') ∧ Hid (W.heap.size ≤ g ∧ g < w'.heap.size ∧ Row w' g 8 (fun i => .slice (P (o + i)) (R (o + i)).length (C (o + i))) ∧ Blw W w') := fun o W ho hb =>
    clone_any z (1 + o) (16 - o) _ W (fun i hi => by rw [show 1 + o + i = 1 + (o + i) by omega]; exact (HH.out.blw hb).cell (by omega)) (fun i => rfl)
  have HCL : Hid _ := hcl
  have hn0 : ∀ w', Blw w w' → w'.cell? ⟨z, 0, none⟩ = some (.int .i64 now) := fun w' hb => (h.blw hb).now0
  have hS0 : Blw w Wa.drew := hb0.trans hbd
  have HSZ : Hid (∀ k, k < 16 → ∀ b, P k = some ⟨b, 0, none⟩ → b < w.heap.size) := fun k hk b e => h.lt hk e
  have HL : Hid (∀ k, k < 16 → (R k).length ≤ 1000) := hl
  have HLO : Hid (lo ≤ w.heap.size) := hlo
  clear h hb0 r0 hbd hcl hl hlo
  go_enter Try.func51, Try.ntmps51
  go_wp2_with fail
  clear hWa
  refine wp_region_noPanic ?_
  refine wp_region_held_drew (S := (Blw w)) (by kernel_rfl) hS0 (fun hB => ?_)
  clear hB
  generalize Wa.drew = wd at *
  refine wpAnyH_take (i := 0) (oi := { dst := some 3, op := Op.move (Operand.tmp 0), type := 99, pos := _, after := #[], guard := none }) (v := (.pointer (some ⟨z, 0, none⟩))) rfl (by kernel_rfl) (by kernel_rfl) (by kernel_rfl) (fun _ _ _ h => h) (Or.inl ⟨by rfl, fun w' hS => by (try dsimp only at hS); go_simp⟩) hS0 ?_
  simp only [Act.put, List.setIfInBounds_toArray, List.set_cons_zero, List.set_cons_succ]
  refine wpAnyH_take (i := 4) (oi := { dst := some 7, op := Op.move (Operand.tmp 0), type := 99, pos := _, after := #[], guard := none }) (v := (.pointer (some ⟨z, 0, none⟩))) rfl (by kernel_rfl) (by kernel_rfl) (by kernel_rfl) (fun _ _ _ h => h) (Or.inl ⟨by rfl, fun w' hS => by (try dsimp only at hS); go_simp⟩) hS0 ?_
  simp only [Act.put, List.setIfInBounds_toArray, List.set_cons_zero, List.set_cons_succ]
  refine wpAnyH_take (i := 9) (oi := { dst := some 12, op := Op.move (Operand.tmp 0), type := 99, pos := _, after := #[], guard := none }) (v := (.pointer (some ⟨z, 0, none⟩))) rfl (by kernel_rfl) (by kernel_rfl) (by kernel_rfl) (fun _ _ _ h => h) (Or.inl ⟨by rfl, fun w' hS => by (try dsimp only at hS); go_simp⟩) hS0 ?_
  simp only [Act.put, List.setIfInBounds_toArray, List.set_cons_zero, List.set_cons_succ]
  refine wpAnyH_take (i := 1) (oi := { dst := some 4, op := Op.nilCheck (Operand.tmp 3), type := 0, pos := _, after := #[{ on := 0, ground := Ground.data }], guard := none }) (v := (.pointer (some ⟨z, 0, none⟩))) rfl (by kernel_rfl) (by kernel_rfl) (by kernel_rfl) (fun _ _ _ h => h) (Or.inl ⟨by rfl, fun w' hS => by (try dsimp only at hS); go_simp⟩) hS0 ?_
  simp only [Act.put, List.setIfInBounds_toArray, List.set_cons_zero, List.set_cons_succ]
  refine wpAnyH_take (i := 5) (oi := { dst := some 8, op := Op.nilCheck (Operand.tmp 7), type := 0, pos := _, after := #[{ on := 4, ground := Ground.data }], guard := none }) (v := (.pointer (some ⟨z, 0, none⟩))) rfl (by kernel_rfl) (by kernel_rfl) (by kernel_rfl) (fun _ _ _ h => h) (Or.inl ⟨by rfl, fun w' hS => by (try dsimp only at hS); go_simp⟩) hS0 ?_
  simp only [Act.put, List.setIfInBounds_toArray, List.set_cons_zero, List.set_cons_succ]
  refine wpAnyH_take (i := 10) (oi := { dst := some 13, op := Op.nilCheck (Operand.tmp 12), type := 0, pos := _, after := #[{ on := 9, ground := Ground.data }], guard := none }) (v := (.pointer (some ⟨z, 0, none⟩))) rfl (by kernel_rfl) (by kernel_rfl) (by kernel_rfl) (fun _ _ _ h => h) (Or.inl ⟨by rfl, fun w' hS => by (try dsimp only at hS); go_simp⟩) hS0 ?_
  simp only [Act.put, List.setIfInBounds_toArray, List.set_cons_zero, List.set_cons_succ]
  refine wpAnyH_take (i := 2) (oi := { dst := some 5, op := Op.fieldAddr 71 (Operand.tmp 4) 0, type := 0, pos := _, after := #[{ on := 1, ground := Ground.data }], guard := none }) (v := (.pointer (some ⟨z, 0, none⟩))) rfl (by kernel_rfl) (by kernel_rfl) (by kernel_rfl) (fun _ _ _ h => h) (Or.inl ⟨by rfl, fun w' hS => by (try dsimp only at hS); go_simp⟩) hS0 ?_
  simp only [Act.put, List.setIfInBounds_toArray, List.set_cons_zero, List.set_cons_succ]
  refine wpAnyH_take (i := 6) (oi := { dst := some 9, op := Op.fieldAddr 71 (Operand.tmp 8) 1, type := 0, pos := _, after := #[{ on := 5, ground := Ground.data }], guard := none }) (v := (.pointer (some ⟨z, 1, none⟩))) rfl (by kernel_rfl) (by kernel_rfl) (by kernel_rfl) (fun _ _ _ h => h) (Or.inl ⟨by rfl, fun w' hS => by (try dsimp only at hS); go_simp⟩) hS0 ?_
  simp only [Act.put, List.setIfInBounds_toArray, List.set_cons_zero, List.set_cons_succ]
  refine wpAnyH_take (i := 11) (oi := { dst := some 14, op := Op.fieldAddr 71 (Operand.tmp 13) 1, type := 0, pos := _, after := #[{ on := 10, ground := Ground.data }], guard := none }) (v := (.pointer (some ⟨z, 1, none⟩))) rfl (by kernel_rfl) (by kernel_rfl) (by kernel_rfl) (fun _ _ _ h => h) (Or.inl ⟨by rfl, fun w' hS => by (try dsimp only at hS); go_simp⟩) hS0 ?_
  simp only [Act.put, List.setIfInBounds_toArray, List.set_cons_zero, List.set_cons_succ]
  refine wpAnyH_take (i := 3) (oi := { dst := some 6, op := Op.load 3 (Operand.tmp 5), type := 3, pos := _, after := #[{ on := 2, ground := Ground.data }], guard := none }) (v := (.int .i64 now)) rfl (by kernel_rfl) (by kernel_rfl) (by kernel_rfl) (fun _ _ _ h => h) (Or.inl ⟨by rfl, fun w' hS => by (try dsimp only at hS); go_simp⟩) hS0 ?_
  simp only [Act.put, List.setIfInBounds_toArray, List.set_cons_zero, List.set_cons_succ]
  refine wpAnyH_take (i := 7) (oi := { dst := some 10, op := Op.slice 69 (Operand.tmp 9) (some (Operand.const (Value.int IntKind.i64 0))) (some (Operand.const (Value.int IntKind.i64 8))) none, type := 23, pos := _, after := #[{ on := 6, ground := Ground.data }], guard := none }) (v := (.slice (some ⟨z, 1, none⟩) 8 16)) rfl (by kernel_rfl) (by kernel_rfl) (by kernel_rfl) (fun _ _ _ h => h) (Or.inl ⟨by rfl, fun w' hS => by (try dsimp only at hS); go_simp⟩) hS0 ?_
  simp only [Act.put, List.setIfInBounds_toArray, List.set_cons_zero, List.set_cons_succ]
  refine wpAnyH_take (i := 12) (oi := { dst := some 15, op := Op.slice 69 (Operand.tmp 14) (some (Operand.const (Value.int IntKind.i64 8))) (some (Operand.const (Value.int IntKind.i64 16))) none, type := 23, pos := _, after := #[{ on := 11, ground := Ground.data }], guard := none }) (v := (.slice (some ⟨z, 9, none⟩) 8 8)) rfl (by kernel_rfl) (by kernel_rfl) (by kernel_rfl) (fun _ _ _ h => h) (Or.inl ⟨by rfl, fun w' hS => by (try dsimp only at hS); go_simp⟩) hS0 ?_
  simp only [Act.put, List.setIfInBounds_toArray, List.set_cons_zero, List.set_cons_succ]
  refine wpAnyH_ready (rs := [8]) (by kernel_rfl) (by simp) ?_
  refine AllReadyH.cons (o := { dst := some 11, op := Op.call { callee := Callee.value (Operand.func 83), args := #[Operand.tmp 10], argTypes := #[23] }, type := 23, pos := _, after := #[{ on := 7, ground := Ground.data }], guard := none }) rfl (fun K hK => ?_) AllReadyH.nil
  go_simp
  refine (HCL.out 0 _ (by omega) (Blw.refl _)).mono ?_
  rintro e w8 ⟨g1, c1, rfl, HE1⟩
  refine hK.out _ _ (hS0.trans HE1.out.2.2.2) (fun hB => ?_)
  clear hK K hB
  try simp only [Act.put, List.setIfInBounds_toArray, List.set_cons_zero, List.set_cons_succ]
  refine wpAnyH_ready (rs := [13]) (by kernel_rfl) (by simp) ?_
  refine AllReadyH.cons (o := { dst := some 16, op := Op.call { callee := Callee.value (Operand.func 83), args := #[Operand.tmp 15], argTypes := #[23] }, type := 23, pos := _, after := #[{ on := 12, ground := Ground.data }, { on := 8, ground := Ground.chain }], guard := none }) rfl (fun K hK => ?_) AllReadyH.nil
  go_simp
  refine (HCL.out 8 _ (by omega) HE1.out.2.2.2).mono ?_
  rintro e w9 ⟨g2, c2, rfl, HE2⟩
  refine hK.out _ _ ((hS0.trans HE1.out.2.2.2).trans HE2.out.2.2.2) (fun hB => ?_)
  clear hK K hB
  try simp only [Act.put, List.setIfInBounds_toArray, List.set_cons_zero, List.set_cons_succ]
  refine wpAnyH_take (i := 14) (oi := { dst := some 17, op := Op.build 25 #[(0, Operand.tmp 6), (1, Operand.tmp 11), (2, Operand.tmp 16)], type := 25, pos := _, after := #[{ on := 3, ground := Ground.data }, { on := 8, ground := Ground.data }, { on := 13, ground := Ground.data }], guard := none }) (v := (.agg #[.int .i64 now, .slice (some ⟨g1, 0, none⟩) 8 c1, .slice (some ⟨g2, 0, none⟩) 8 c2])) rfl (by kernel_rfl) (by kernel_rfl) (by kernel_rfl) (fun _ _ _ h => h) (Or.inl ⟨by rfl, fun w' hS => by (try dsimp only at hS); go_simp⟩) ((hS0.trans HE1.out.2.2.2).trans HE2.out.2.2.2) ?_
  simp only [Act.put, List.setIfInBounds_toArray, List.set_cons_zero, List.set_cons_succ]
  refine wpAnyH_ready (rs := [15]) (by kernel_rfl) (by simp) ?_
  refine AllReadyH.cons (o := { dst := none, op := Op.store 25 (Operand.tmp 2) (Operand.tmp 17), type := 0, pos := _, after := #[{ on := 14, ground := Ground.data }, { on := 13, ground := Ground.chain }, { on := 0, ground := Ground.phase }, { on := 1, ground := Ground.phase }, { on := 2, ground := Ground.phase }, { on := 3, ground := Ground.phase }, { on := 4, ground := Ground.phase }, { on := 5, ground := Ground.phase }, { on := 6, ground := Ground.phase }, { on := 7, ground := Ground.phase }, { on := 8, ground := Ground.phase }, { on := 9, ground := Ground.phase }, { on := 10, ground := Ground.phase }, { on := 11, ground := Ground.phase }, { on := 12, ground := Ground.phase }, { on := 13, ground := Ground.phase }, { on := 14, ground := Ground.phase }], guard := none }) rfl (fun K hK => ?_) AllReadyH.nil
  have R8 := (HR0.out.1.blw HE1.out.2.2.2).blw HE2.out.2.2.2
  obtain ⟨v0, v1, v2⟩ := get3 R8
  have f0 := R8.frozen 0
  have f1 := R8.frozen 1
  have f2 := R8.frozen 2
  clear R8
  go_simp
  refine hK.out _ _ (((((hS0.trans HE1.out.2.2.2).trans HE2.out.2.2.2).setCell (Nat.le_refl _) _).setCell (Nat.le_refl _) _).setCell (Nat.le_refl _) _) (fun hB => ?_)
  clear hK K hB
  try simp only [Act.put, List.setIfInBounds_toArray, List.set_cons_zero, List.set_cons_succ]
  refine wpAnyH_done (by kernel_rfl) ?_ _
  refine NoPanic.normal ?_
  have HX5 : Hid (Row w8 g1 8 (fun i => .slice (P i) (R i).length (C i)) ∧ Row w9 g2 8 (fun i => .slice (P (8 + i)) (R (8 + i)).length (C (8 + i)))) := ⟨HE1.out.2.2.1.congr (fun i hi => by simp), HE2.out.2.2.1⟩
  go_wp2
  have mS := set3_mod (X := fun b => b = w.heap.size) w9 rfl (.int .i64 now) (.slice (some ⟨g1, 0, none⟩) 8 c1) (.slice (some ⟨g2, 0, none⟩) 8 c2)
  have q1 := HE1.out.1
  have q2 := HE1.out.2.1
  have q3 := HE2.out.1
  have q4 := HE2.out.2.1
  have b1 := HE1.out.2.2.2
  have b2 := HE2.out.2.2.2
  have hz0 := HR0.out.2.2
  have s0 := b1.size
  have r9 := set3_2 (set3_1 (set3_0 ((HR0.out.1.blw b1).blw b2) (.int .i64 now)) (.slice (some ⟨g1, 0, none⟩) 8 c1)) (.slice (some ⟨g2, 0, none⟩) 8 c2)
  obtain ⟨u0, u1, u2⟩ := get3 r9
  have hPw := HSZ.out
  refine bodyPost_ret (v := .agg #[.int .i64 now, .slice (some ⟨g1, 0, none⟩) 8 c1, .slice (some ⟨g2, 0, none⟩) 8 c2]) (by simp [results, Try.results51, go_sem, u0, u1, u2]) rfl ?_
  have hHR : HR lo R P C (((w9.setCell ⟨w.heap.size, 0, none⟩ (.int .i64 now)).setCell ⟨w.heap.size, 1, none⟩ (.slice (some ⟨g1, 0, none⟩) 8 c1)).setCell ⟨w.heap.size, 2, none⟩ (.slice (some ⟨g2, 0, none⟩) 8 c2)) := ((HH.out.hr.blw b1).blw b2).mod mS (fun k b hk e hh => by have := hPw k hk b e; omega)
  have hlo := HLO.out
  refine ⟨⟨some ⟨g1, 0, none⟩, some ⟨g2, 0, none⟩, c1, c2⟩, rfl, (wheel_ownX c1 c2 hHR HL.out ((HX5.out.1.blw b2).mod mS (fun e => by omega)) (HX5.out.2.mod mS (fun e => by omega)) (fun k hk e => by have := hPw k hk g1 e; omega) (fun k hk e => by have := hPw k hk g2 e; omega) (by omega)).mono (fun b hb => hb.elim (fun e => Or.inr ⟨by omega, by simp only [World.size_setCell]; omega⟩) (fun h => h.elim (fun e => Or.inr ⟨by omega, by simp only [World.size_setCell]; omega⟩) Or.inl)), Mod.blw ((HR0.out.2.1.trans b1).trans b2) mS (fun i e => by omega)⟩
end Go.Proofs.Ytkmkidahaagbpaa
