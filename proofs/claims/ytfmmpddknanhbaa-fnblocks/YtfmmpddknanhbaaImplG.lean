/- The program's owners given out; good, new. -/
import Derived.Test.YtfmmpddknanhbaaImplA
import Derived.Test.YtfmmpddknanhbaaLawF
namespace Go.Proofs.Ytfmmpddknanhbaa
open Go.RowKit
set_option linter.unusedSimpArgs false
set_option linter.unusedVariables false
theorem mk16 (w : World) : (Instr.makeSlice 23 (.int .i64 16) (.int .i64 16)).run Try.prog w = .ok (.slice (some ⟨w.heap.size, 0, none⟩) 16 16) (w.alloc (.cells (madeCells #[.int .i64 0] 16) 3)) := mkInts 16 (by omega) w
set_option maxHeartbeats 400000 in
theorem selOwn_any (x y : Int) (w : World) : Calls Try.prog 88 #[.agg #[.int .i64 x, .int .i64 y]] w fun e w' => e = .returned (.int .i64 x) ∧ Blw w w' := by
  have hb0 : Blw w (w.alloc (.cells #[.int .i64 x, .int .i64 y] 78)) := (Blw.refl _).alloc _
  obtain ⟨p0, p1⟩ := get2 (box2 w (.int .i64 x) (.int .i64 y) 78)
  go_enter Try.func88, Try.ntmps88
  go_wp2
  go_ret
  exact ⟨rfl, hb0⟩
set_option maxHeartbeats 400000 in
theorem selLent_any (x y : Int) (w : World) : Calls Try.prog 89 #[.agg #[.int .i64 x, .int .i64 y]] w fun e w' => e = .returned (.int .i64 y) ∧ Blw w w' := by
  have hb0 : Blw w (w.alloc (.cells #[.int .i64 x, .int .i64 y] 78)) := (Blw.refl _).alloc _
  obtain ⟨p0, p1⟩ := get2 (box2 w (.int .i64 x) (.int .i64 y) 78)
  go_enter Try.func89, Try.ntmps89
  go_wp2
  go_ret
  exact ⟨rfl, hb0⟩
set_option maxRecDepth 10000 in
set_option maxHeartbeats 1600000 in
theorem eachOwn_any (z : Nat) (f g : Nat → Int) (w : World) (h : Row w z (16 * 2) (uc f g)) :
    Calls Try.prog 87 #[.slice (some ⟨z, 0, none⟩) 16 16, .func (.func 88) #[] #[]] w fun e w' => ∃ y, e = .returned (.slice (some ⟨y, 0, none⟩) 16 16) ∧ Row w' y 16 (fun i => .int .i64 (f i)) ∧ w.heap.size ≤ y ∧ Blw w w' := by
  have H : Hid (Row w z (16 * 2) (uc f g)) := h
  have hmk := mk16 w
  clear h
  go_enter Try.func87, Try.ntmps87
  go_wp2_with fail
  clear hmk
  go_loopw [13] (fun i wr => ∃ j : Nat, j ≤ 16 ∧ i = .int .i64 j ∧ Row wr w.heap.size 16 (fun t => Value.int .i64 (if t < j then f t else 0)) ∧ Blw w wr) (fun i _ => 16 - (intOf i).toNat)
  case atStart => exact ⟨0, by omega, rfl, (Row.made w (.int .i64 0) 16 3).congr (fun i _ => by simp), (Blw.refl _).alloc _⟩
  case round =>
    obtain ⟨j, hj, rfl, hr, hb⟩ := hrel
    by_cases hlt : j < 16
    · have hlt' : (j : Int) < 16 := by omega
      obtain ⟨q0, q1⟩ := undo_get (H.out.blw hb) hlt
      have HR : Hid (Row wr w.heap.size 16 (fun t => Value.int .i64 (if t < j then f t else 0))) := hr
      have HB : Hid (Blw w wr) := hb
      obtain ⟨s0, s1⟩ := get2 (box2 wr (.int .i64 (f j)) (.int .i64 (g j)) 78)
      clear hr hb
      go_wp2_with fail
      clear q0 q1 s0 s1
      refine (selOwn_any (f j) (g j) _).mono ?_
      rintro e w1 ⟨rfl, hb1⟩
      have hb2 : Blw wr w1 := ((Blw.refl _).alloc _).trans hb1
      have hr := HR.out.blw hb2
      have g2 : w1.cell? ⟨w.heap.size, j, none⟩ = some (.int .i64 0) := by simpa using hr.cell hlt
      have g3 := hr.frozen j
      have st := fill_step (mk := fun x => Value.int .i64 x) (HB.out.trans hb2) hr
      have ST : Hid _ := st
      clear hr hb2 hb1 st HR HB
      go_wp2
      go_roundw
      case rel => exact ⟨j + 1, by omega, by go_num, ST.out.1, ST.out.2⟩
      case measure => simp [intOf]; omega
    · obtain rfl : j = 16 := by omega
      go_wp2
      go_ret
      exact ⟨_, rfl, hr.congr fun i hi => (by simp [hi]), Nat.le_refl _, hb⟩
set_option maxRecDepth 10000 in
set_option maxHeartbeats 1600000 in
theorem eachLent_any (z : Nat) (f g : Nat → Int) (w : World) (h : Row w z (16 * 2) (uc f g)) :
    Calls Try.prog 87 #[.slice (some ⟨z, 0, none⟩) 16 16, .func (.func 89) #[] #[]] w fun e w' => ∃ y, e = .returned (.slice (some ⟨y, 0, none⟩) 16 16) ∧ Row w' y 16 (fun i => .int .i64 (g i)) ∧ w.heap.size ≤ y ∧ Blw w w' := by
  have H : Hid (Row w z (16 * 2) (uc f g)) := h
  have hmk := mk16 w
  clear h
  go_enter Try.func87, Try.ntmps87
  go_wp2_with fail
  clear hmk
  go_loopw [13] (fun i wr => ∃ j : Nat, j ≤ 16 ∧ i = .int .i64 j ∧ Row wr w.heap.size 16 (fun t => Value.int .i64 (if t < j then g t else 0)) ∧ Blw w wr) (fun i _ => 16 - (intOf i).toNat)
  case atStart => exact ⟨0, by omega, rfl, (Row.made w (.int .i64 0) 16 3).congr (fun i _ => by simp), (Blw.refl _).alloc _⟩
  case round =>
    obtain ⟨j, hj, rfl, hr, hb⟩ := hrel
    by_cases hlt : j < 16
    · have hlt' : (j : Int) < 16 := by omega
      obtain ⟨q0, q1⟩ := undo_get (H.out.blw hb) hlt
      have HR : Hid (Row wr w.heap.size 16 (fun t => Value.int .i64 (if t < j then g t else 0))) := hr
      have HB : Hid (Blw w wr) := hb
      obtain ⟨s0, s1⟩ := get2 (box2 wr (.int .i64 (f j)) (.int .i64 (g j)) 78)
      clear hr hb
      go_wp2_with fail
      clear q0 q1 s0 s1
      refine (selLent_any (f j) (g j) _).mono ?_
      rintro e w1 ⟨rfl, hb1⟩
      have hb2 : Blw wr w1 := ((Blw.refl _).alloc _).trans hb1
      have hr := HR.out.blw hb2
      have g2 : w1.cell? ⟨w.heap.size, j, none⟩ = some (.int .i64 0) := by simpa using hr.cell hlt
      have g3 := hr.frozen j
      have st := fill_step (mk := fun x => Value.int .i64 x) (HB.out.trans hb2) hr
      have ST : Hid _ := st
      clear hr hb2 hb1 st HR HB
      go_wp2
      go_roundw
      case rel => exact ⟨j + 1, by omega, by go_num, ST.out.1, ST.out.2⟩
      case measure => simp [intOf]; omega
    · obtain rfl : j = 16 := by omega
      go_wp2
      go_ret
      exact ⟨_, rfl, hr.congr fun i hi => (by simp [hi]), Nat.le_refl _, hb⟩
set_option maxRecDepth 10000 in
set_option maxHeartbeats 1600000 in
theorem giveOut_any (z : Nat) (f g : Nat → Int) (w : World) (h : Row w z (16 * 2) (uc f g)) :
    Calls Try.prog 62 #[.slice (some ⟨z, 0, none⟩) 16 16] w fun e w' => ∃ b' : BV, e = .returned (b'.val ⟨16, f, 16, g⟩) ∧ BookOwn (fun x => w.heap.size < x ∧ x < w'.heap.size) w' b' ⟨16, f, 16, g⟩ ∧ Blw w w' := by
  have hb0 : Blw w (w.alloc (.cells #[.slice none 0 0, .slice none 0 0] 25)) := (Blw.refl _).alloc _
  have r0 := box2 w (.slice none 0 0) (.slice none 0 0) 25
  have H : Hid (Row (w.alloc (.cells #[.slice none 0 0, .slice none 0 0] 25)) z (16 * 2) (uc f g)) := h.blw hb0
  have hz : (w.alloc (.cells #[.slice none 0 0, .slice none 0 0] 25)).heap.size = w.heap.size + 1 := by simp
  clear h
  go_enter Try.func62, Try.ntmps62
  go_wp2_with fail
  refine (eachOwn_any z f g _ H.out).mono ?_
  rintro e w1 ⟨y1, rfl, ro1, l1, hb1⟩
  replace H : Hid (Row w1 z (16 * 2) (uc f g)) := H.out.blw hb1
  replace r0 := r0.blw hb1
  replace hb1 := hb0.trans hb1
  go_wp2_with fail
  refine (eachLent_any z f g _ H.out).mono ?_
  rintro e w2 ⟨y2, rfl, ro2, l2, hb2⟩
  replace r0 := r0.blw hb2
  have ro1' := ro1.blw hb2
  have lt1 := ro1.lt
  have lt2 := ro2.lt
  replace hb2 := hb1.trans hb2
  rw [hz] at l1
  have hm := set2_mod (X := fun x => x = w.heap.size) w2 rfl (.slice (some ⟨y1, 0, none⟩) 16 16) (.slice (some ⟨y2, 0, none⟩) 16 16)
  have hs := hm.size
  have lt3 : y1 < w2.heap.size := by omega
  have FIN : Hid (BookOwn (fun x => w.heap.size < x ∧ x < ((w2.setCell ⟨w.heap.size, 0, none⟩ (.slice (some ⟨y1, 0, none⟩) 16 16)).setCell ⟨w.heap.size, 1, none⟩ (.slice (some ⟨y2, 0, none⟩) 16 16)).heap.size) ((w2.setCell ⟨w.heap.size, 0, none⟩ (.slice (some ⟨y1, 0, none⟩) 16 16)).setCell ⟨w.heap.size, 1, none⟩ (.slice (some ⟨y2, 0, none⟩) 16 16)) ⟨some ⟨y1, 0, none⟩, some ⟨y2, 0, none⟩, 16, 16⟩ ⟨16, f, 16, g⟩) :=
    ⟨fun x => x = y1, fun x => x = y2, fun x hx => ⟨by omega, by omega⟩, fun x hx => by omega, ⟨by show 16 ≤ _; omega, fun _ => ⟨_, rfl, rfl, ro1'.mod hm (by omega)⟩⟩, ⟨by show 16 ≤ _; omega, fun _ => ⟨_, rfl, rfl, ro2.mod hm (by omega)⟩⟩⟩
  have HBW : Hid (Blw w ((w2.setCell ⟨w.heap.size, 0, none⟩ (.slice (some ⟨y1, 0, none⟩) 16 16)).setCell ⟨w.heap.size, 1, none⟩ (.slice (some ⟨y2, 0, none⟩) 16 16))) := set2_blw hb2 (Nat.le_refl _) _ _
  obtain ⟨t0, t1⟩ := get2 r0
  have f0 := r0.frozen 0
  have f1 := r0.frozen 1
  clear ro1 ro1' ro2 hm hs hb2 hb1 hb0 H r0 l1 l2 lt1 lt2 lt3 hz
  go_wp2
  refine bodyPost_ret (v := .agg #[.slice (some ⟨y1, 0, none⟩) 16 16, .slice (some ⟨y2, 0, none⟩) 16 16]) (by simp [results, Try.results62, go_sem, t0, t1]) rfl ?_
  exact ⟨_, rfl, FIN.out, HBW.out⟩
set_option maxHeartbeats 800000 in
theorem implGood_any (b : BV) (B : BD) (Y : Nat → Prop) (w : World) (h : BookAt Y w b B) (hY : ∀ x, Y x → x < w.heap.size) :
    Calls Try.prog 18 #[b.val B] w fun e w' => ∃ r, e = .returned (.bool r) ∧ (r = true ↔ B.Good) ∧ Blw w w' := by
  have hb0 : Blw w (w.alloc (.cells #[.slice b.a1 B.n b.c1, .slice b.a2 B.k b.c2] 25)) := (Blw.refl _).alloc _
  have HB : Hid (BookAt Y (w.alloc (.cells #[.slice b.a1 B.n b.c1, .slice b.a2 B.k b.c2] 25)) b B) := h.blw hb0
  clear h
  go_enter Try.func18, Try.ntmps18
  go_wp2_with fail
  refine (hold_any b B Y _ HB.out (fun x hx => by have := hY x hx; simp; omega)).mono ?_
  rintro e w1 ⟨h1, hb1⟩
  replace hb1 := hb0.trans hb1
  clear hb0 HB
  rcases h1 with ⟨z, hg, rfl, -, -⟩ | ⟨hg, rfl⟩
  · have HG : Hid B.Good := hg
    clear hg
    go_wp2
    go_ret
    exact ⟨true, rfl, iff_t HG.out, hb1⟩
  · have HG : Hid (¬ B.Good) := hg
    clear hg
    go_wp2
    go_ret
    exact ⟨false, rfl, iff_f HG.out, hb1⟩
/-- Owners without anything. -/
abbrev BD.none16 : BD := ⟨16, fun _ => 0, 16, fun _ => 0⟩
def GivesO (R : BD) (w : World) : Ending → World → Prop := fun e w' =>
  ∃ b : BV, e = .returned (b.val R) ∧ BookOwn (fun x => w.heap.size ≤ x ∧ x < w'.heap.size) w' b R ∧ Blw w w'
set_option maxHeartbeats 800000 in
theorem implNew_any (w : World) : Calls Try.prog 40 #[] w (GivesO BD.none16 w) := by
  have hb0 : Blw w (w.alloc (.cells #[.slice none 0 0, .slice none 0 0] 25)) := (Blw.refl _).alloc _
  have r0 := box2 w (.slice none 0 0) (.slice none 0 0) 25
  have hmk := mkHeld (w.alloc (.cells #[.slice none 0 0, .slice none 0 0] 25))
  have hm2 := Row.made2 (w.alloc (.cells #[.slice none 0 0, .slice none 0 0] 25)) (.int .i64 0) 16 78
  have hA : Blw (w.alloc (.cells #[.slice none 0 0, .slice none 0 0] 25)) ((w.alloc (.cells #[.slice none 0 0, .slice none 0 0] 25)).alloc (.cells (madeCells #[.int .i64 0, .int .i64 0] (16 * 2)) 78)) := (Blw.refl _).alloc _
  have hz : (w.alloc (.cells #[.slice none 0 0, .slice none 0 0] 25)).heap.size = w.heap.size + 1 := by simp
  rw [hz] at hmk hm2
  go_enter Try.func40, Try.ntmps40
  go_wp2_with fail
  clear hmk
  replace r0 := r0.blw hA
  have hbA := hb0.trans hA
  revert hm2 r0 hbA
  generalize (w.alloc (.cells #[.slice none 0 0, .slice none 0 0] 25)).alloc (.cells (madeCells #[.int .i64 0, .int .i64 0] (16 * 2)) 78) = w1
  intro hm2 r0 hbA
  refine (giveOut_any _ (fun _ => 0) (fun _ => 0) _ (hm2.congr (fun i hi => by simp [uc]))).mono ?_
  rintro e w2 ⟨b', rfl, own, hb2⟩
  replace r0 := r0.blw hb2
  have hs1 := hbA.size
  have hr := r0.lt
  obtain ⟨t0, t1⟩ := get2 r0
  have f0 := r0.frozen 0
  have f1 := r0.frozen 1
  have hm := set2_mod (X := fun x => x = w.heap.size) w2 rfl (.slice b'.a1 16 b'.c1) (.slice b'.a2 16 b'.c2)
  have hs := hm.size
  have FIN : Hid (GivesO BD.none16 w (.returned (b'.val BD.none16)) ((w2.setCell ⟨w.heap.size, 0, none⟩ (.slice b'.a1 16 b'.c1)).setCell ⟨w.heap.size, 1, none⟩ (.slice b'.a2 16 b'.c2))) :=
    ⟨b', rfl, (own.mod hm (fun x hx e => by omega)).mono (fun x hx => by omega), set2_blw (hbA.trans hb2) (Nat.le_refl _) _ _⟩
  clear own hm hs hs1 hb2 hbA r0 hm2 hb0 hA hz
  go_wp2
  exact bodyPost_ret (v := b'.val BD.none16) (by simp [results, Try.results40, go_sem, t0, t1]) rfl FIN.out
end Go.Proofs.Ytfmmpddknanhbaa
