/- 'spec.NewMemory': what it answers. -/
import Derived.Test.YtglllnklcnlcjaaMark
import Derived.Test.YtglllnklcnlcjaaBld
import Derived.Deep.CutRange
namespace Go.Proofs.Ytglllnklcnlcjaa
open Go.RowKit
theorem mk4' (w : World) : (Instr.makeSlice 28 (.int .i64 4) (.int .i64 4)).run Try.prog w = .ok (.slice (some ⟨w.heap.size, 0, none⟩) 4 4) (w.alloc (.cells (madeCells #[.int .i64 0] 4) 3)) := by kernel_rfl
theorem mkb12' (w : World) : (Instr.makeSlice 24 (.int .i64 12) (.int .i64 12)).run Try.prog w = .ok (.slice (some ⟨w.heap.size, 0, none⟩) 12 12) (w.alloc (.cells (madeCells #[.bool false] 12) 4)) := by kernel_rfl

theorem row3 {w : World} {M : Nat} {a b c : Value} {t : TypeId} (h : w.heap[M]? = some (.cells #[a, b, c] t (0, 0))) : Row w M 3 (fun i => if i = 0 then a else if i = 1 then b else c) :=
  ⟨_, t, h, by simp, fun i hi => by
    match i, hi with
    | 0, _ => rfl
    | 1, _ => rfl
    | 2, _ => rfl⟩
/-- A memory of twelve lines of four words, all 0. -/
def MD.full' (s c : Nat → Nat → Int) (d : Nat → Bool) : MD := ⟨12, 12, 12, fun _ => 4, fun _ => 4, s, c, d⟩
abbrev zeros : Nat → Nat → Int := fun _ _ => 0

theorem snew_start (w wA : World) (h : wA.heap.size = w.heap.size + 1 + 1) : ∃ X1 X2 F1 c1 F2 c2,
    Build wA (wA.alloc (.cells #[.slice none 0 0, .slice none 0 0, .slice (some ⟨w.heap.size + 1, 0, none⟩) 12 12] 26)) (w.heap.size + 1 + 1) (.slice none 0 0) (.slice none 0 0) (.slice (some ⟨w.heap.size + 1, 0, none⟩) 12 12) 0 0 (fun _ => 4) (fun _ => 4) zeros zeros X1 X2 F1 c1 F2 c2 := by
  refine ⟨fun _ => False, fun _ => False, _, _, _, _, (Blw.refl _).alloc _, row3 (t := 26) ?_, bld_nil _ _ _ _, bld_nil _ _ _ _, fun b hb => hb.elim, fun b hb => hb.elim, by omega⟩
  have := heap_alloc_new wA (.cells #[.slice none 0 0, .slice none 0 0, .slice (some ⟨w.heap.size + 1, 0, none⟩) 12 12] 26)
  rw [h] at this
  exact this
theorem row_box (w : World) (t : TypeId) : Row (w.alloc (.cells #[.slice none 0 0, .slice none 0 0, .slice none 0 0] t)) w.heap.size 3 (fun _ => .slice none 0 0) :=
  (row3 (heap_alloc_new _ _)).congr fun i _ => by simp

theorem snew_end {w wA wr we : World} {a1 a2 : Option Addr} {d1 d2 : Nat} {X1 X2 : Nat → Prop} {F1 c1 F2 c2 : Nat → Nat}
    (B : Build wA wr (w.heap.size + 1 + 1) (.slice a1 12 d1) (.slice a2 12 d2) (.slice (some ⟨w.heap.size + 1, 0, none⟩) 12 12) 12 12 (fun _ => 4) (fun _ => 4) zeros zeros X1 X2 F1 c1 F2 c2)
    (hm : Mod (fun x => x = w.heap.size) wr we) (rD : Row wA (w.heap.size + 1) 12 (fun _ => .bool false)) (hz : wA.heap.size ≤ wr.heap.size) (he : we.heap.size = wr.heap.size) (hzA : wA.heap.size = w.heap.size + 1 + 1) :
    MemAt (fun b => w.heap.size ≤ b ∧ b < we.heap.size) we ⟨a1, a2, some ⟨w.heap.size + 1, 0, none⟩, d1, d2, 12⟩ (MD.full' zeros zeros (fun _ => false)) := by
  have n1 : ∀ b, X1 b → ¬ b = w.heap.size := fun b hb => by have := (B.x1 b hb).1; omega
  have n2 : ∀ b, X2 b → ¬ b = w.heap.size := fun b hb => by have := (B.x2 b hb).1; omega
  refine ⟨((B.b1.mod hm n1).lines (by omega)).at.mono (fun b hb => ?_), ((B.b2.mod hm n2).lines (by omega)).at.mono (fun b hb => ?_), ⟨by show 12 ≤ _; omega, fun i hi => ⟨_, _, rfl, ⟨by omega, by omega⟩, ?_⟩⟩⟩
  · have := B.x1 b hb
    exact ⟨by omega, by omega⟩
  · have := B.x2 b hb
    exact ⟨by omega, by omega⟩
  · rw [Nat.zero_add]
    exact ((rD.blw B.blw).mod hm (by omega)).cell hi
set_option maxRecDepth 10000 in
set_option maxHeartbeats 1600000 in
theorem specNew_any (w : World) : Calls Try.prog 109 #[] w fun e w' => ∃ m : MV, e = .returned (m.val (MD.full' zeros zeros (fun _ => false))) ∧ MemAt (fun b => w.heap.size ≤ b ∧ b < w'.heap.size) w' m (MD.full' zeros zeros (fun _ => false)) ∧ Blw w w' := by
  have m1 := mk4'
  have m2 := mkb12'
  go_enter Try.func109, Try.ntmps109
  go_wp2
  have hbA : Blw w ((w.alloc (.cells #[.slice none 0 0, .slice none 0 0, .slice none 0 0] 26)).alloc (.cells (madeCells #[.bool false] 12) 4)) := ((Blw.refl _).alloc _).alloc _
  have rX : Row ((w.alloc (.cells #[.slice none 0 0, .slice none 0 0, .slice none 0 0] 26)).alloc (.cells (madeCells #[.bool false] 12) 4)) w.heap.size 3 (fun _ => .slice none 0 0) := (row_box w 26).blw ((Blw.refl _).alloc _)
  have rD : Row ((w.alloc (.cells #[.slice none 0 0, .slice none 0 0, .slice none 0 0] 26)).alloc (.cells (madeCells #[.bool false] 12) 4)) (w.heap.size + 1) 12 (fun _ => .bool false) := by
    simpa using Row.made (w.alloc (.cells #[.slice none 0 0, .slice none 0 0, .slice none 0 0] 26)) (.bool false) 12 4
  have hzA : ((w.alloc (.cells #[.slice none 0 0, .slice none 0 0, .slice none 0 0] 26)).alloc (.cells (madeCells #[.bool false] 12) 4)).heap.size = w.heap.size + 1 + 1 := by simp
  revert hbA rX rD hzA
  generalize (w.alloc (.cells #[.slice none 0 0, .slice none 0 0, .slice none 0 0] 26)).alloc (.cells (madeCells #[.bool false] 12) 4) = wA
  intro hbA rX rD hzA
  have hS := snew_start w wA hzA
  go_loopw [2] (fun i wr => ∃ k v1 v2 X1 X2 F1 c1 F2 c2, k ≤ 12 ∧ i = .int .i64 (k : Nat) ∧ Build wA wr (w.heap.size + 1 + 1) v1 v2 (.slice (some ⟨w.heap.size + 1, 0, none⟩) 12 12) k k (fun _ => 4) (fun _ => 4) zeros zeros X1 X2 F1 c1 F2 c2) (fun i _ => 12 - (intOf i).toNat)
  case atStart =>
    obtain ⟨X1, X2, F1, c1, F2, c2, h⟩ := hS
    exact ⟨0, _, _, X1, X2, F1, c1, F2, c2, by omega, rfl, h⟩
  case round =>
    obtain ⟨k, v1, v2, X1, X2, F1, c1, F2, c2, hk, rfl, B⟩ := hrel
    clear hS
    by_cases hlt : k < 12
    · have p0 := B.cell0
      have p0a : ∀ o, (wr.alloc o).cell? ⟨w.heap.size + 1 + 1, 0, none⟩ = some v1 := fun o => ((Blw.refl wr).alloc o).cell p0
      have p0b : ∀ o o', ((wr.alloc o).alloc o').cell? ⟨w.heap.size + 1 + 1, 0, none⟩ = some v1 := fun o o' => (((Blw.refl wr).alloc o).alloc o').cell p0
      go_wp2
      go_cut [] from 5 to 22 (fun wc => ∃ v1 X1 F1 c1, Build wA wc (w.heap.size + 1 + 1) v1 v2 (.slice (some ⟨w.heap.size + 1, 0, none⟩) 12 12) (k + 1) k (fun _ => 4) (fun _ => 4) zeros zeros X1 X2 F1 c1 F2 c2)
      case first =>
        go_region_law (refine step_append_line rfl (.tmp 10) (.tmp 13) rfl B.b1 rfl ⟨wr.heap.size + 1, 0, none⟩ wr.heap.size 4 rfl (by omega) (by omega) (fun h => by have := (B.x1 _ h).2.1; omega) (by repeat (first | exact Blw.refl _ | apply Blw.drew | apply Blw.alloc)) (by go_cell) ((Row.made wr (.int .i64 0) 4 3).blw (by repeat (first | exact Blw.refl _ | apply Blw.drew | apply Blw.alloc))) ?_; intro g cap w' hN hm hg hgl; have B1 := build_first B (by repeat (first | exact Blw.refl _ | apply Blw.drew | apply Blw.alloc)) (Nat.le_refl _) (by simp <;> omega) hN hm hg hgl; have Q1 := build_q1 B (by repeat (first | exact Blw.refl _ | apply Blw.drew | apply Blw.alloc)) hm; obtain ⟨q0, q1⟩ := Q1; clear hN hm hg hgl)
        all_goals go_wp2
        all_goals go_meet
        all_goals exact ⟨_, _, _, _, by assumption⟩
      case rest =>
        obtain ⟨v1', X1', F1', c1', B'⟩ := hcut
        clear B p0 p0a p0b
        have p1 := B'.cell1
        have p1a : ∀ o, (wc.alloc o).cell? ⟨w.heap.size + 1 + 1, 1, none⟩ = some v2 := fun o => ((Blw.refl wc).alloc o).cell p1
        have p1b : ∀ o o', ((wc.alloc o).alloc o').cell? ⟨w.heap.size + 1 + 1, 1, none⟩ = some v2 := fun o o' => (((Blw.refl wc).alloc o).alloc o').cell p1
        go_wp2
        go_region_law (refine step_append_line rfl (.tmp 17) (.tmp 20) rfl B'.b2 rfl ⟨wc.heap.size + 1, 0, none⟩ wc.heap.size 4 rfl (by omega) (by omega) (fun h => by have := (B'.x2 _ h).2.1; omega) (by repeat (first | exact Blw.refl _ | apply Blw.drew | apply Blw.alloc)) (by go_cell) ((Row.made wc (.int .i64 0) 4 3).blw (by repeat (first | exact Blw.refl _ | apply Blw.drew | apply Blw.alloc))) ?_; intro g cap w' hN hm hg hgl; have B1 := build_second B' (by repeat (first | exact Blw.refl _ | apply Blw.drew | apply Blw.alloc)) (Nat.le_refl _) (by simp <;> omega) hN hm hg hgl; have Q1 := build_q2 B' (by repeat (first | exact Blw.refl _ | apply Blw.drew | apply Blw.alloc)) hm; obtain ⟨q0, q1⟩ := Q1; clear hN hm hg hgl)
        all_goals go_wp2
        all_goals go_roundw
        all_goals first | exact ⟨k + 1, _, _, _, _, _, _, _, _, by omega, by go_num, by assumption⟩ | (simp [intOf]; omega)
    · obtain rfl : k = 12 := by omega
      have p0 := B.cell0
      have p1 := B.cell1
      have p2 := B.cell2
      have rX' := rX.blw B.blw
      have hz := B.blw.size
      have x0 : wr.cell? ⟨w.heap.size, 0, none⟩ = some (.slice none 0 0) := rX'.cell (by omega)
      have x1 : wr.cell? ⟨w.heap.size, 1, none⟩ = some (.slice none 0 0) := rX'.cell (by omega)
      have x2 : wr.cell? ⟨w.heap.size, 2, none⟩ = some (.slice none 0 0) := rX'.cell (by omega)
      have f0 := rX'.frozen 0
      have f1 := rX'.frozen 1
      have f2 := rX'.frozen 2
      obtain ⟨a1, d1, e1⟩ := bld_shape B.b1
      obtain ⟨a2, d2, e2⟩ := bld_shape B.b2
      subst e1 e2
      go_wp2
      have hm3 : Mod (fun x => x = w.heap.size) wr (((wr.setCell ⟨w.heap.size, 0, none⟩ (.slice a1 12 d1)).setCell ⟨w.heap.size, 1, none⟩ (.slice a2 12 d2)).setCell ⟨w.heap.size, 2, none⟩ (.slice (some ⟨w.heap.size + 1, 0, none⟩) 12 12)) :=
        ((Mod.setCell (X := fun x => x = w.heap.size) wr (p := ⟨w.heap.size, 0, none⟩) rfl _).trans (Mod.setCell (X := fun x => x = w.heap.size) _ (p := ⟨w.heap.size, 1, none⟩) rfl _)).trans (Mod.setCell (X := fun x => x = w.heap.size) _ (p := ⟨w.heap.size, 2, none⟩) rfl _)
      refine bodyPost_ret (v := .agg #[.slice a1 12 d1, .slice a2 12 d2, .slice (some ⟨w.heap.size + 1, 0, none⟩) 12 12]) (by simp [results, Try.results109, go_sem, x0, x1, x2]) rfl ⟨⟨a1, a2, some ⟨w.heap.size + 1, 0, none⟩, d1, d2, 12⟩, rfl, snew_end B hm3 rD (by omega) (by simp) hzA, Mod.blw (hbA.trans B.blw) hm3 (fun i hi => by omega)⟩
end Go.Proofs.Ytglllnklcnlcjaa
