/- Tops that are filled; a held table given out. -/
import Derived.Test.YtjplodenflkghaaEach
import Derived.Test.YtjplodenflkghaaFindI
import Derived.Test.YtjplodenflkghaaLawB
namespace Go.Proofs.Ytjplodenflkghaa
open Go.RowKit
set_option linter.unusedSimpArgs false
set_option linter.unusedVariables false
set_option maxHeartbeats 1600000 in
theorem fill_any (z : Nat) (c : Nat → Int) (v : Value) (x : Int) (w : World) (h : Row w z 5 (row5f c v)) :
    Calls Try.prog 192 #[.slice (some ⟨z, 0, none⟩) 4 4, .int .i64 x] w fun e w' => e = .returned (.tuple #[]) ∧ Row w' z 5 (row5f (fun _ => x) v) ∧ Mod (fun b => b = z) w w' := by
  go_enter Try.func192, Try.ntmps192
  go_wp2_with fail
  go_loopw [7] (fun i wr => ∃ j : Nat, j ≤ 4 ∧ i = .int .i64 j ∧ Row wr z 5 (fun i => if i < j then .int .i64 x else row5f c v i) ∧ Mod (fun b => b = z) w wr) (fun i _ => 4 - (intOf i).toNat)
  case atStart => exact ⟨0, by omega, rfl, h.congr (fun i hi => by simp), Mod.refl _ _⟩
  case round =>
    obtain ⟨j, hj, rfl, hr, hm⟩ := hrel
    by_cases hlt : j < 4
    · have hlt' : (j : Int) < 4 := by omega
      have g0 := hr.cell (i := j) (by omega)
      have f0 := hr.frozen j
      have HR : Hid (Row (wr.setCell ⟨z, j, none⟩ (.int .i64 x)) z 5 (fun i => if i < j + 1 then .int .i64 x else row5f c v i)) := (hr.set j _).congr (fun i hi => by
        by_cases e1 : i = j
        · subst e1; simp
        · by_cases e2 : i < j
          · have e3 : i < j + 1 := by omega
            simp only [e1, e2, e3, if_true, if_false]
          · have e3 : ¬ i < j + 1 := by omega
            simp only [e1, e2, e3, if_false])
      have HM : Hid (Mod (fun b => b = z) w (wr.setCell ⟨z, j, none⟩ (.int .i64 x))) := hm.trans (Mod.setCell (X := fun b => b = z) _ (p := ⟨z, j, none⟩) rfl _)
      clear hr hm
      go_wp2
      go_roundw
      case rel => exact ⟨j + 1, by omega, by go_num, HR.out, HM.out⟩
      case measure => simp [intOf]; omega
    · obtain rfl : j = 4 := by omega
      have HR : Hid (Row wr z 5 (row5f (fun _ => x) v)) := hr.congr (fun i hi => by
        match i, hi with
        | 0, _ => rfl
        | 1, _ => rfl
        | 2, _ => rfl
        | 3, _ => rfl
        | 4, _ => rfl)
      have HM : Hid (Mod (fun b => b = z) w wr) := hm
      clear hr hm
      go_wp2
      refine bodyPost_end (results_none rfl _ _ _) rfl ?_
      exact ⟨rfl, HR.out, HM.out⟩
theorem out_own {w w2 : World} {c : Nat → Int} {kn : Nat} {p m : Nat → Nat → Int} {a1 a2 : Option Addr} {q1 q2 z s1 s2 : Nat} {w1 : World} (h0 : w.heap.size ≤ z) (h1 : z < s1) (h2 : s1 ≤ s2) (h3 : s2 ≤ w2.heap.size) (hb : Blw w1 w2) (hs1 : w1.heap.size = s2) (o1 : IntsOwn (fun x => s1 ≤ x ∧ x < s2) w1 a1 4 c) (o2 : PSOwn (fun x => s2 ≤ x ∧ x < w2.heap.size) w2 a2 ⟨kn, fun _ => 4, p, m⟩) (v0 v1 : Value) :
    BookOwn (fun x => w.heap.size ≤ x ∧ x < ((w2.setCell ⟨z, 0, none⟩ v0).setCell ⟨z, 1, none⟩ v1).heap.size) ((w2.setCell ⟨z, 0, none⟩ v0).setCell ⟨z, 1, none⟩ v1) ⟨a1, a2, q1, q2⟩ ⟨4, c, ⟨kn, fun _ => 4, p, m⟩⟩ := by
  have hm := set2_mod (X := fun x => x = z) w2 rfl v0 v1
  have hs := hm.size
  exact ⟨fun x => s1 ≤ x ∧ x < s2, fun x => s2 ≤ x ∧ x < w2.heap.size, fun x hx => ⟨⟨by omega, by omega⟩, by omega⟩, fun x hx => ⟨by omega, by omega⟩, (o1.blw hb).mod hm (fun x hx => by omega), o2.mod hm (fun x hx => by omega)⟩
set_option maxRecDepth 10000 in
set_option maxHeartbeats 3200000 in
theorem giveOut_any (c : Nat → Int) (zl kn : Nat) (p m : Nat → Nat → Int) (w : World) (hk : kn ≤ 4) (h : Row w zl (kn * 8) (lc p m)) :
    Calls Try.prog 113 #[.agg (held5 c zl kn)] w fun e w' => ∃ b' : BV, e = .returned (b'.val ⟨4, c, ⟨kn, fun _ => 4, p, m⟩⟩) ∧ BookOwn (fun x => w.heap.size ≤ x ∧ x < w'.heap.size) w' b' ⟨4, c, ⟨kn, fun _ => 4, p, m⟩⟩ ∧ Blw w w' := by
  have hb0 : Blw w ((w.alloc (.cells (held5 c zl kn) 129)).alloc (.cells #[.slice none 0 0, .slice none 0 0] 29)) := ((Blw.refl _).alloc _).alloc _
  have rA : Row ((w.alloc (.cells (held5 c zl kn) 129)).alloc (.cells #[.slice none 0 0, .slice none 0 0] 29)) w.heap.size 5 (row5f c (.slice (some ⟨zl, 0, none⟩) kn kn)) := (row5 w (.int .i64 (c 0)) (.int .i64 (c 1)) (.int .i64 (c 2)) (.int .i64 (c 3)) (.slice (some ⟨zl, 0, none⟩) kn kn) 129).blw ((Blw.refl _).alloc _)
  have rR := box2 (w.alloc (.cells (held5 c zl kn) 129)) (.slice none 0 0) (.slice none 0 0) 29
  rw [World.size_alloc] at rR
  have rL := h.blw hb0
  clear h
  have hsz : ((w.alloc (.cells (held5 c zl kn) 129)).alloc (.cells #[.slice none 0 0, .slice none 0 0] 29)).heap.size = w.heap.size + 1 + 1 := by simp
  go_enter Try.func113, Try.ntmps113
  go_upto_region 1 with fail
  revert hb0 rA rR rL hsz
  generalize ((w.alloc (.cells (held5 c zl kn) 129)).alloc (.cells #[.slice none 0 0, .slice none 0 0] 29)) = w0
  intro hb0 rA rR rL hsz
  have HL : Hid (Row w0.drew zl (kn * 8) (lc p m)) := rL.blw (Blw.refl _).drew
  have HA : Hid (Row w0.drew w.heap.size 5 (row5f c (.slice (some ⟨zl, 0, none⟩) kn kn))) := rA.blw (Blw.refl _).drew
  have HR : Hid (Row w0.drew (w.heap.size + 1) 2 (fun i => if i = 0 then .slice none 0 0 else .slice none 0 0)) := rR.blw (Blw.refl _).drew
  have HB : Hid (Blw w w0.drew) := hb0.drew
  have HSZ : Hid (w0.drew.heap.size = w.heap.size + 1 + 1) := hsz
  have P4 : ∀ w', Row w' w.heap.size 5 (row5f c (.slice (some ⟨zl, 0, none⟩) kn kn)) → w'.cell? ⟨w.heap.size, 4, none⟩ = some (.slice (some ⟨zl, 0, none⟩) kn kn) := fun w' hh => (get5 hh).2.2.2.2
  clear hb0 rA rR rL hsz
  refine wp_region_noPanic ?_
  have hS0 := HA.out
  refine wp_region_held_drew (S := fun w' => Row w' w.heap.size 5 (row5f c (.slice (some ⟨zl, 0, none⟩) kn kn))) (by kernel_rfl) hS0 (fun hB => ?_)
  clear hB
  revert hS0
  generalize w0.drew = wd at *
  intro hS0
  refine wpAnyH_take (i := 0) (oi := { dst := some 3, op := Op.fieldAddr 129 (Operand.tmp 1) 0, type := 0, pos := _, after := #[], guard := none }) (v := (.pointer (some ⟨w.heap.size, 0, none⟩))) rfl (by kernel_rfl) (by kernel_rfl) (by kernel_rfl) (fun _ _ _ h => h) (Or.inl ⟨by rfl, fun w' hS => by (try dsimp only at hS); go_simp⟩) hS0 ?_
  simp only [Act.put, List.setIfInBounds_toArray, List.set_cons_zero, List.set_cons_succ]
  refine wpAnyH_take (i := 1) (oi := { dst := some 4, op := Op.slice 126 (Operand.tmp 3) none none none, type := 26, pos := _, after := #[{ on := 0, ground := Ground.data }], guard := none }) (v := (.slice (some ⟨w.heap.size, 0, none⟩) 4 4)) rfl (by kernel_rfl) (by kernel_rfl) (by kernel_rfl) (fun _ _ _ h => h) (Or.inl ⟨by rfl, fun w' hS => by (try dsimp only at hS); go_simp⟩) hS0 ?_
  simp only [Act.put, List.setIfInBounds_toArray, List.set_cons_zero, List.set_cons_succ]
  refine wpAnyH_take (i := 3) (oi := { dst := some 6, op := Op.fieldAddr 129 (Operand.tmp 1) 1, type := 0, pos := _, after := #[], guard := none }) (v := (.pointer (some ⟨w.heap.size, 4, none⟩))) rfl (by kernel_rfl) (by kernel_rfl) (by kernel_rfl) (fun _ _ _ h => h) (Or.inl ⟨by rfl, fun w' hS => by (try dsimp only at hS); go_simp⟩) hS0 ?_
  simp only [Act.put, List.setIfInBounds_toArray, List.set_cons_zero, List.set_cons_succ]
  refine wpAnyH_take (i := 4) (oi := { dst := some 7, op := Op.load 127 (Operand.tmp 6), type := 127, pos := _, after := #[{ on := 3, ground := Ground.data }], guard := none }) (v := (.slice (some ⟨zl, 0, none⟩) kn kn)) rfl (by kernel_rfl) (by kernel_rfl) (by kernel_rfl) (fun _ _ _ h => h) (Or.inl ⟨by rfl, fun w' hS => by (try dsimp only at hS); go_simp⟩) hS0 ?_
  simp only [Act.put, List.setIfInBounds_toArray, List.set_cons_zero, List.set_cons_succ]
  refine wpAnyH_ready (rs := [2]) (by kernel_rfl) (by simp) ?_
  refine AllReadyH.cons (o := { dst := some 5, op := Op.call { callee := Callee.value (Operand.func 169), args := #[Operand.tmp 4], argTypes := #[26] }, type := 26, pos := _, after := #[{ on := 1, ground := Ground.data }], guard := none }) rfl (fun K hK => ?_) AllReadyH.nil
  go_simp
  refine (cloneI_any w.heap.size 0 4 4 c (fun x => x = w.heap.size) _ (by omega) ⟨by omega, fun i hi => ⟨_, 0, rfl, rfl, by rw [Nat.zero_add]; exact row5_top HA.out hi⟩⟩).mono ?_
  rintro e w1 ⟨a1, q1, rfl, o1, hb1⟩
  have HL1 : Hid (Row w1 zl (kn * 8) (lc p m)) := HL.out.blw hb1
  have HR1 : Hid (Row w1 (w.heap.size + 1) 2 (fun i => if i = 0 then .slice none 0 0 else .slice none 0 0)) := HR.out.blw hb1
  have HB1 : Hid (Blw w w1) := HB.out.trans hb1
  have z1 := hb1.size
  rw [HSZ.out] at o1 z1
  have hS1 := HA.out.blw hb1
  refine hK.out _ _ hS1 (fun hB => ?_)
  clear hK K hB
  try simp only [Act.put, List.setIfInBounds_toArray, List.set_cons_zero, List.set_cons_succ]
  refine wpAnyH_ready (rs := [5]) (by kernel_rfl) (by simp) ?_
  refine AllReadyH.cons (o := { dst := some 8, op := Op.call { callee := Callee.value (Operand.func 170), args := #[Operand.tmp 7, Operand.func 171], argTypes := #[127, 199] }, type := 27, pos := _, after := #[{ on := 4, ground := Ground.data }, { on := 2, ground := Ground.chain }], guard := none }) rfl (fun K hK => ?_) AllReadyH.nil
  go_simp
  refine (each_any zl kn p m _ hk HL1.out).mono ?_
  rintro e w2 ⟨za, rfl, o2, hb2⟩
  have r2 := HR1.out.blw hb2
  have z2 := hb2.size
  have t0 := (get2 r2).1
  have t1 := (get2 r2).2
  have f0 := r2.frozen 0
  have f1 := r2.frozen 1
  have FIN : Hid _ := out_own (w := w) (q1 := q1) (q2 := kn) (z := w.heap.size + 1) (by omega) (by omega) z1 z2 hb2 rfl o1 o2 (.slice a1 4 q1) (.slice (some ⟨za, 0, none⟩) kn kn)
  have HBF : Hid _ := set2_blw (HB1.out.trans hb2) (B := w.heap.size + 1) (by omega) (.slice a1 4 q1) (.slice (some ⟨za, 0, none⟩) kn kn)
  have hS2 := hS1.blw hb2
  clear o1 o2 hb1 hb2 z1 z2 HL1 HR1 HB1
  refine hK.out _ _ hS2 (fun hB => ?_)
  clear hK K hB
  try simp only [Act.put, List.setIfInBounds_toArray, List.set_cons_zero, List.set_cons_succ]
  refine wpAnyH_take (i := 6) (oi := { dst := some 9, op := Op.build 29 #[(0, Operand.tmp 5), (1, Operand.tmp 8)], type := 29, pos := _, after := #[{ on := 2, ground := Ground.data }, { on := 5, ground := Ground.data }], guard := none }) (v := (.agg #[.slice a1 4 q1, .slice (some ⟨za, 0, none⟩) kn kn])) rfl (by kernel_rfl) (by kernel_rfl) (by kernel_rfl) (fun _ _ _ h => h) (Or.inl ⟨by rfl, fun w' hS => by (try dsimp only at hS); go_simp⟩) hS2 ?_
  simp only [Act.put, List.setIfInBounds_toArray, List.set_cons_zero, List.set_cons_succ]
  refine wpAnyH_ready (rs := [7]) (by kernel_rfl) (by simp) ?_
  refine AllReadyH.cons (o := { dst := none, op := Op.store 29 (Operand.tmp 2) (Operand.tmp 9), type := 0, pos := _, after := #[{ on := 6, ground := Ground.data }, { on := 5, ground := Ground.chain }, { on := 0, ground := Ground.phase }, { on := 1, ground := Ground.phase }, { on := 2, ground := Ground.phase }, { on := 3, ground := Ground.phase }, { on := 4, ground := Ground.phase }, { on := 5, ground := Ground.phase }, { on := 6, ground := Ground.phase }], guard := none }) rfl (fun K hK => ?_) AllReadyH.nil
  go_simp
  have hS3 := ((hS2.setOther (a := ⟨w.heap.size + 1, 0, none⟩) (by show w.heap.size ≠ w.heap.size + 1; omega) (.slice a1 4 q1)).setOther (a := ⟨w.heap.size + 1, 1, none⟩) (by show w.heap.size ≠ w.heap.size + 1; omega) (.slice (some ⟨za, 0, none⟩) kn kn))
  refine hK.out _ _ hS3 (fun hB => ?_)
  clear hK K hB
  try simp only [Act.put, List.setIfInBounds_toArray, List.set_cons_zero, List.set_cons_succ]
  refine wpAnyH_done (by kernel_rfl) ?_ _
  refine NoPanic.normal ?_
  clear hS0 hS1 hS2 hS3 HL HA HR HB HSZ P4 r2
  go_wp2
  refine bodyPost_ret (v := .agg #[.slice a1 4 q1, .slice (some ⟨za, 0, none⟩) kn kn]) (by simp [results, Try.results113, go_sem, t0, t1]) rfl ?_
  exact ⟨⟨a1, some ⟨za, 0, none⟩, q1, kn⟩, rfl, FIN.out, HBF.out⟩
end Go.Proofs.Ytjplodenflkghaa
