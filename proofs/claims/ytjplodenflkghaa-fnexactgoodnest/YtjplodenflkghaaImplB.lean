/- The program's lists of leaves, held as values. -/
import Derived.Test.YtjplodenflkghaaImplA
namespace Go.Proofs.Ytjplodenflkghaa
open Go.RowKit
set_option linter.unusedSimpArgs false
set_option linter.unusedVariables false
abbrev eight (f g : Nat → Int) : Array Value := #[.int .i64 (f 0), .int .i64 (g 0), .int .i64 (f 1), .int .i64 (g 1), .int .i64 (f 2), .int .i64 (g 2), .int .i64 (f 3), .int .i64 (g 3)]
abbrev zf : Nat → Int := fun _ => 0
theorem undo8 {Y : Nat → Prop} {w : World} {b o : Nat} {f g : Nat → Int} (h : UndosAt Y w (some ⟨b, o, none⟩) 4 f g) :
    w.cell? ⟨b, o, none⟩ = some (.int .i64 (f 0)) ∧ w.cell? ⟨b, o + 1, none⟩ = some (.int .i64 (g 0)) ∧ w.cell? ⟨b, o + 2, none⟩ = some (.int .i64 (f 1)) ∧ w.cell? ⟨b, o + 3, none⟩ = some (.int .i64 (g 1)) ∧
    w.cell? ⟨b, o + 4, none⟩ = some (.int .i64 (f 2)) ∧ w.cell? ⟨b, o + 5, none⟩ = some (.int .i64 (g 2)) ∧ w.cell? ⟨b, o + 6, none⟩ = some (.int .i64 (f 3)) ∧ w.cell? ⟨b, o + 7, none⟩ = some (.int .i64 (g 3)) := by
  have hh : ∀ i, i < 4 → w.cell? ⟨b, o + i * 2, none⟩ = some (.int .i64 (f i)) ∧ w.cell? ⟨b, o + i * 2 + 1, none⟩ = some (.int .i64 (g i)) := fun i hi => by
    obtain ⟨b', o', e, -, h1, h2⟩ := h.2 i hi
    cases e
    exact ⟨h1, h2⟩
  exact ⟨(hh 0 (by omega)).1, (hh 0 (by omega)).2, (hh 1 (by omega)).1, (hh 1 (by omega)).2, (hh 2 (by omega)).1, (hh 2 (by omega)).2, (hh 3 (by omega)).1, (hh 3 (by omega)).2⟩
theorem row8 {w : World} {b n : Nat} {f : Nat → Value} (r : Row w b n f) (h : 8 ≤ n) : w.cell? ⟨b, 0, none⟩ = some (f 0) ∧ w.cell? ⟨b, 1, none⟩ = some (f 1) ∧ w.cell? ⟨b, 2, none⟩ = some (f 2) ∧ w.cell? ⟨b, 3, none⟩ = some (f 3) ∧ w.cell? ⟨b, 4, none⟩ = some (f 4) ∧ w.cell? ⟨b, 5, none⟩ = some (f 5) ∧ w.cell? ⟨b, 6, none⟩ = some (f 6) ∧ w.cell? ⟨b, 7, none⟩ = some (f 7) :=
  ⟨r.cell (by omega), r.cell (by omega), r.cell (by omega), r.cell (by omega), r.cell (by omega), r.cell (by omega), r.cell (by omega), r.cell (by omega)⟩
theorem row_zero8 (w : World) (t : TypeId) : Row (w.alloc (.cells #[.int .i64 0, .int .i64 0, .int .i64 0, .int .i64 0, .int .i64 0, .int .i64 0, .int .i64 0, .int .i64 0] t)) w.heap.size 8 (fun _ => .int .i64 0) :=
  ⟨_, t, heap_alloc_new _ _, by simp, fun i hi => by
    match i, hi with
    | 0, _ => rfl
    | 1, _ => rfl
    | 2, _ => rfl
    | 3, _ => rfl
    | 4, _ => rfl
    | 5, _ => rfl
    | 6, _ => rfl
    | 7, _ => rfl⟩
theorem set8_blw {w W : World} {z : Nat} (h : Blw w W) (hz : w.heap.size ≤ z) (v0 v1 v2 v3 v4 v5 v6 v7 : Value) : Blw w ((((((((W.setCell ⟨z, 0, none⟩ v0).setCell ⟨z, 1, none⟩ v1).setCell ⟨z, 2, none⟩ v2).setCell ⟨z, 3, none⟩ v3).setCell ⟨z, 4, none⟩ v4).setCell ⟨z, 5, none⟩ v5).setCell ⟨z, 6, none⟩ v6).setCell ⟨z, 7, none⟩ v7) :=
  ((((((((h.setCell hz _).setCell hz _).setCell hz _).setCell hz _).setCell hz _).setCell hz _).setCell hz _).setCell hz _)
theorem arrayAt4 (b o c : Nat) (w : World) : (Instr.arrayAt 186 (.slice (some ⟨b, o, none⟩) 4 c)).run Try.prog w = .ok (.pointer (some ⟨b, o, none⟩)) w := by
  simp [Instr.arrayAt, run_underlying Try.underlying186]
def lsOK (n : Nat) (f g : Nat → Int) : Prop := n = 4 ∧ allLeaf f g 4
set_option maxRecDepth 10000 in
set_option maxHeartbeats 1000000 in
theorem holdLeaves_any (ao : Option Addr) (c0 n : Nat) (f g : Nat → Int) (Y : Nat → Prop) (w : World) (h : UndosAt Y w ao n f g) :
    Calls Try.prog 159 #[.slice ao n c0] w fun e w' => ((lsOK n f g ∧ e = .returned (.tuple #[.agg (eight f g), .bool true])) ∨ (¬ lsOK n f g ∧ e = .returned (.tuple #[.agg (eight zf zf), .bool false]))) ∧ Blw w w' := by
  have hb0 : Blw w (w.alloc (.cells #[.int .i64 0, .int .i64 0, .int .i64 0, .int .i64 0, .int .i64 0, .int .i64 0, .int .i64 0, .int .i64 0] 186)) := (Blw.refl _).alloc _
  have r0 := row_zero8 w 186
  have H : Hid (UndosAt Y (w.alloc (.cells #[.int .i64 0, .int .i64 0, .int .i64 0, .int .i64 0, .int .i64 0, .int .i64 0, .int .i64 0, .int .i64 0] 186)) ao n f g) := h.blw hb0
  have hn := h.1
  clear h
  go_enter Try.func159, Try.ntmps159
  by_cases h4 : n = 4
  case neg =>
    have HN : Hid (¬ lsOK n f g) := fun q => h4 q.1
    have d4 : ((n : Int) != 4) = true := by simp; omega
    obtain ⟨z0, z1, z2, z3, z4, z5, z6, z7⟩ := row8 r0 (by omega)
    have f0 := r0.frozen 0; have f1 := r0.frozen 1; have f2 := r0.frozen 2; have f3 := r0.frozen 3; have f4 := r0.frozen 4; have f5 := r0.frozen 5; have f6 := r0.frozen 6; have f7 := r0.frozen 7
    clear h4 r0
    go_wp2
    refine bodyPost_ret (v := .tuple #[.agg (eight zf zf), .bool false]) (by simp [results, Try.results159, go_sem, z0, z1, z2, z3, z4, z5, z6, z7]) rfl ?_
    refine ⟨Or.inr ⟨HN.out, rfl⟩, ?_⟩
    exact hb0
  subst h4
  go_wp2_with fail
  refine (anyBad_any ao c0 4 f g Y _ H.out).mono ?_
  rintro e w1 ⟨r, rfl, hr, hb1⟩
  have HR : Hid (r = true ↔ ¬ allLeaf f g 4) := hr
  have HB : Hid (Blw w w1) := hb0.trans hb1
  replace H : Hid (UndosAt Y w1 ao 4 f g) := H.out.blw hb1
  replace r0 := r0.blw hb1
  obtain ⟨z0, z1, z2, z3, z4, z5, z6, z7⟩ := row8 r0 (by omega)
  have f0 := r0.frozen 0; have f1 := r0.frozen 1; have f2 := r0.frozen 2; have f3 := r0.frozen 3; have f4 := r0.frozen 4; have f5 := r0.frozen 5; have f6 := r0.frozen 6; have f7 := r0.frozen 7
  clear hr hb1 hb0 r0
  cases r
  · have HO : Hid (lsOK 4 f g) := ⟨rfl, Classical.byContradiction fun q => by have := HR.out.2 q; simp at this⟩
    clear HR
    obtain ⟨b, o, e, -⟩ := H.out.2 0 (by omega)
    subst e
    obtain ⟨q0, q1, q2, q3, q4, q5, q6, q7⟩ := undo8 H.out
    have hat := arrayAt4 b o c0
    clear H
    go_wp2
    refine bodyPost_ret (v := .tuple #[.agg (eight f g), .bool true]) (by simp [results, Try.results159, go_sem, z0, z1, z2, z3, z4, z5, z6, z7]) rfl ?_
    refine ⟨Or.inl ⟨HO.out, rfl⟩, ?_⟩
    exact set8_blw HB.out (by omega) _ _ _ _ _ _ _ _
  · have HN : Hid (¬ lsOK 4 f g) := fun q => HR.out.1 (by first | rfl | trivial) q.2
    clear HR H
    go_wp2
    refine bodyPost_ret (v := .tuple #[.agg (eight zf zf), .bool false]) (by simp [results, Try.results159, go_sem, z0, z1, z2, z3, z4, z5, z6, z7]) rfl ?_
    refine ⟨Or.inr ⟨HN.out, rfl⟩, ?_⟩
    exact set8_blw HB.out (by omega) _ _ _ _ _ _ _ _
end Go.Proofs.Ytjplodenflkghaa
