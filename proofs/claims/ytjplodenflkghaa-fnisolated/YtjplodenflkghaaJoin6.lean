/- Merged by program, in this order: NstI, NstW, NewW, NstS, PutH, NstP. -/
import Derived.Test.YtjplodenflkghaaJoin5
/- Nests: the program's held ones, and its walks. -/
namespace Go.Proofs.Ytjplodenflkghaa
open Go.RowKit
set_option linter.unusedSimpArgs false
set_option linter.unusedVariables false
abbrev held10 (c d : Nat → Int) (z1 k1 z2 k2 : Nat) : Array Value := #[.int .i64 (c 0), .int .i64 (c 1), .int .i64 (c 2), .int .i64 (c 3), .slice (some ⟨z1, 0, none⟩) k1 k1, .int .i64 (d 0), .int .i64 (d 1), .int .i64 (d 2), .int .i64 (d 3), .slice (some ⟨z2, 0, none⟩) k2 k2]
abbrev zero10 : Array Value := #[.int .i64 0, .int .i64 0, .int .i64 0, .int .i64 0, .slice none 0 0, .int .i64 0, .int .i64 0, .int .i64 0, .int .i64 0, .slice none 0 0]
def ten (a b c d e f g h i j : Value) : Nat → Value
  | 0 => a
  | 1 => b
  | 2 => c
  | 3 => d
  | 4 => e
  | 5 => f
  | 6 => g
  | 7 => h
  | 8 => i
  | _ => j
theorem box10 (w : World) (a b c d e f g h i j : Value) (t : TypeId) : Row (w.alloc (.cells #[a, b, c, d, e, f, g, h, i, j] t)) w.heap.size 10 (ten a b c d e f g h i j) :=
  ⟨_, t, heap_alloc_new _ _, by simp, fun k hk => by
    match k, hk with
    | 0, _ => rfl
    | 1, _ => rfl
    | 2, _ => rfl
    | 3, _ => rfl
    | 4, _ => rfl
    | 5, _ => rfl
    | 6, _ => rfl
    | 7, _ => rfl
    | 8, _ => rfl
    | 9, _ => rfl⟩
theorem get10 {w : World} {B : Nat} {a b c d e f g h i j : Value} (r : Row w B 10 (ten a b c d e f g h i j)) : w.cell? ⟨B, 0, none⟩ = some a ∧ w.cell? ⟨B, 1, none⟩ = some b ∧ w.cell? ⟨B, 2, none⟩ = some c ∧ w.cell? ⟨B, 3, none⟩ = some d ∧ w.cell? ⟨B, 4, none⟩ = some e ∧ w.cell? ⟨B, 5, none⟩ = some f ∧ w.cell? ⟨B, 6, none⟩ = some g ∧ w.cell? ⟨B, 7, none⟩ = some h ∧ w.cell? ⟨B, 8, none⟩ = some i ∧ w.cell? ⟨B, 9, none⟩ = some j :=
  ⟨r.cell (i := 0) (by omega), r.cell (i := 1) (by omega), r.cell (i := 2) (by omega), r.cell (i := 3) (by omega), r.cell (i := 4) (by omega), r.cell (i := 5) (by omega), r.cell (i := 6) (by omega), r.cell (i := 7) (by omega), r.cell (i := 8) (by omega), r.cell (i := 9) (by omega)⟩
abbrev hten (c d : Nat → Int) (v u : Value) : Nat → Value := ten (.int .i64 (c 0)) (.int .i64 (c 1)) (.int .i64 (c 2)) (.int .i64 (c 3)) v (.int .i64 (d 0)) (.int .i64 (d 1)) (.int .i64 (d 2)) (.int .i64 (d 3)) u
abbrev zten : Nat → Value := ten (.int .i64 0) (.int .i64 0) (.int .i64 0) (.int .i64 0) (.slice none 0 0) (.int .i64 0) (.int .i64 0) (.int .i64 0) (.int .i64 0) (.slice none 0 0)
/-- All ten cells of a box are stored. -/
abbrev set10 (W : World) (z : Nat) (a b c d e f g h i j : Value) : World := ((((((((((W.setCell ⟨z, 0, none⟩ a).setCell ⟨z, 1, none⟩ b).setCell ⟨z, 2, none⟩ c).setCell ⟨z, 3, none⟩ d).setCell ⟨z, 4, none⟩ e).setCell ⟨z, 5, none⟩ f).setCell ⟨z, 6, none⟩ g).setCell ⟨z, 7, none⟩ h).setCell ⟨z, 8, none⟩ i).setCell ⟨z, 9, none⟩ j)
theorem set10_mod (W : World) (z : Nat) (a b c d e f g h i j : Value) : Mod (fun x => x = z) W (set10 W z a b c d e f g h i j) :=
  (((((((((Mod.setCell (X := fun x => x = z) _ (p := ⟨z, 0, none⟩) rfl _).trans (Mod.setCell (X := fun x => x = z) _ (p := ⟨z, 1, none⟩) rfl _)).trans (Mod.setCell (X := fun x => x = z) _ (p := ⟨z, 2, none⟩) rfl _)).trans (Mod.setCell (X := fun x => x = z) _ (p := ⟨z, 3, none⟩) rfl _)).trans (Mod.setCell (X := fun x => x = z) _ (p := ⟨z, 4, none⟩) rfl _)).trans (Mod.setCell (X := fun x => x = z) _ (p := ⟨z, 5, none⟩) rfl _)).trans (Mod.setCell (X := fun x => x = z) _ (p := ⟨z, 6, none⟩) rfl _)).trans (Mod.setCell (X := fun x => x = z) _ (p := ⟨z, 7, none⟩) rfl _)).trans (Mod.setCell (X := fun x => x = z) _ (p := ⟨z, 8, none⟩) rfl _)).trans (Mod.setCell (X := fun x => x = z) _ (p := ⟨z, 9, none⟩) rfl _)
theorem set5_mod (W : World) (z : Nat) (v0 v1 v2 v3 v4 : Value) : Mod (fun x => x = z) W (((((W.setCell ⟨z, 0, none⟩ v0).setCell ⟨z, 1, none⟩ v1).setCell ⟨z, 2, none⟩ v2).setCell ⟨z, 3, none⟩ v3).setCell ⟨z, 4, none⟩ v4) :=
  ((((Mod.setCell (X := fun x => x = z) _ (p := ⟨z, 0, none⟩) rfl _).trans (Mod.setCell (X := fun x => x = z) _ (p := ⟨z, 1, none⟩) rfl _)).trans (Mod.setCell (X := fun x => x = z) _ (p := ⟨z, 2, none⟩) rfl _)).trans (Mod.setCell (X := fun x => x = z) _ (p := ⟨z, 3, none⟩) rfl _)).trans (Mod.setCell (X := fun x => x = z) _ (p := ⟨z, 4, none⟩) rfl _)
theorem set10_blw {w W : World} {z : Nat} (h' : Blw w W) (hz : w.heap.size ≤ z) (a b c d e f g h i j : Value) : Blw w (set10 W z a b c d e f g h i j) :=
  Mod.blw h' (set10_mod W z a b c d e f g h i j) (fun k hk => by omega)
/-- A good table with a list for each top. -/
def Wide (B : BD) : Prop := B.Good ∧ B.D.n = 4
set_option maxRecDepth 10000 in
set_option maxHeartbeats 800000 in
theorem holdWide_any (b : BV) (B : BD) (Y : Nat → Prop) (w : World) (h : BookAt Y w b B) (hY : ∀ x, Y x → x < w.heap.size) :
    Calls Try.prog 163 #[b.val B] w fun e w' => ((∃ zl, Wide B ∧ e = .returned (.tuple #[.agg (held5 B.c zl 4), .bool true]) ∧ Row w' zl (4 * 8) (lc B.D.p B.D.m) ∧ w.heap.size ≤ zl) ∨ (¬ Wide B ∧ e = .returned (.tuple #[.agg zero5, .bool false]))) ∧ Blw w w' := by
  have hb0 : Blw w ((w.alloc (.cells #[.slice b.a1 B.n b.c1, .slice b.a2 B.D.n b.c2] 29)).alloc (.cells zero5 129)) := ((Blw.refl _).alloc _).alloc _
  have HA : Hid (BookAt Y ((w.alloc (.cells #[.slice b.a1 B.n b.c1, .slice b.a2 B.D.n b.c2] 29)).alloc (.cells zero5 129)) b B) := h.blw hb0
  have r1 := (box2 w (.slice b.a1 B.n b.c1) (.slice b.a2 B.D.n b.c2) 29).blw (w' := ((w.alloc (.cells #[.slice b.a1 B.n b.c1, .slice b.a2 B.D.n b.c2] 29)).alloc (.cells zero5 129))) ((Blw.refl _).alloc _)
  have rz := zrow5 (w.alloc (.cells #[.slice b.a1 B.n b.c1, .slice b.a2 B.D.n b.c2] 29)) (.slice none 0 0) 129
  rw [World.size_alloc] at rz
  have HZ : Hid (Row ((w.alloc (.cells #[.slice b.a1 B.n b.c1, .slice b.a2 B.D.n b.c2] 29)).alloc (.cells zero5 129)) (w.heap.size + 1) 5 (zrow (.slice none 0 0))) := rz
  have HB : Hid (Blw w ((w.alloc (.cells #[.slice b.a1 B.n b.c1, .slice b.a2 B.D.n b.c2] 29)).alloc (.cells zero5 129))) := hb0
  have HSZ : Hid (((w.alloc (.cells #[.slice b.a1 B.n b.c1, .slice b.a2 B.D.n b.c2] 29)).alloc (.cells zero5 129)).heap.size = w.heap.size + 1 + 1) := by show _ = _; simp
  have HYY : Hid (∀ x, Y x → x < ((w.alloc (.cells #[.slice b.a1 B.n b.c1, .slice b.a2 B.D.n b.c2] 29)).alloc (.cells zero5 129)).heap.size) := fun x hx => by have := hY x hx; simp; omega
  clear h hb0 rz hY
  go_enter Try.func163, Try.ntmps163
  obtain ⟨p0, p1⟩ := get2 r1
  clear r1
  go_wp2_with fail
  clear p0 p1
  generalize ((w.alloc (.cells #[.slice b.a1 B.n b.c1, .slice b.a2 B.D.n b.c2] 29)).alloc (.cells zero5 129)) = w0 at *
  refine (hold_any b B Y _ HA.out HYY.out).mono ?_
  rintro e w1 ⟨h1, hb1⟩
  have HLO : Hid (w.heap.size + 1 + 1 ≤ w1.heap.size) := by have h2 := hb1.size; have h3 := HSZ.out; show _ ≤ _; omega
  rcases h1 with ⟨z, hg, rfl, hrow, hlo⟩ | ⟨hg, rfl⟩
  case inr =>
    have hA : Blw w1 (w1.alloc (.cells zero5 129)) := (Blw.refl _).alloc _
    replace HZ : Hid (Row (w1.alloc (.cells zero5 129)) (w.heap.size + 1) 5 (zrow (.slice none 0 0))) := (HZ.out.blw hb1).blw hA
    replace HB : Hid (Blw w (w1.alloc (.cells zero5 129))) := (HB.out.trans hb1).trans hA
    have HG : Hid (¬ B.Good) := hg
    clear hA hb1 hg HA HYY HSZ
    go_upto_region 2 with fail
    generalize (w1.alloc (.cells zero5 129)) = w2 at *
    obtain ⟨t0, t1, t2, t3, t4⟩ := zget HZ.out
    have f0 := HZ.out.frozen 0; have f1 := HZ.out.frozen 1; have f2 := HZ.out.frozen 2; have f3 := HZ.out.frozen 3; have f4 := HZ.out.frozen 4
    clear HZ
    go_wp2
    refine bodyPost_ret (v := .tuple #[.agg zero5, .bool false]) (by simp [results, Try.results163, go_sem, t0, t1, t2, t3, t4]) rfl ?_
    exact ⟨Or.inr ⟨fun q => HG.out q.1, rfl⟩, set5_blw HB.out (by omega) _ _ _ _ _⟩
  have hA : Blw w1 (w1.alloc (.cells (held5 B.c z B.D.n) 129)) := (Blw.refl _).alloc _
  have HR5 : Hid (Row (w1.alloc (.cells (held5 B.c z B.D.n) 129)) w1.heap.size 5 (row5f B.c (.slice (some ⟨z, 0, none⟩) B.D.n B.D.n))) := row5 w1 (.int .i64 (B.c 0)) (.int .i64 (B.c 1)) (.int .i64 (B.c 2)) (.int .i64 (B.c 3)) (.slice (some ⟨z, 0, none⟩) B.D.n B.D.n) 129
  have HRL : Hid (Row (w1.alloc (.cells (held5 B.c z B.D.n) 129)) z (B.D.n * 8) (lc B.D.p B.D.m)) := hrow.blw hA
  replace HZ : Hid (Row (w1.alloc (.cells (held5 B.c z B.D.n) 129)) (w.heap.size + 1) 5 (zrow (.slice none 0 0))) := (HZ.out.blw hb1).blw hA
  replace HB : Hid (Blw w (w1.alloc (.cells (held5 B.c z B.D.n) 129))) := (HB.out.trans hb1).trans hA
  have HG : Hid B.Good := hg
  have HZL : Hid (w.heap.size + 1 + 1 ≤ z) := by have h3 := HSZ.out; show _ ≤ _; omega
  clear hA hb1 hg HA HYY HSZ hrow hlo
  go_upto_region 2 with fail
  generalize (w1.alloc (.cells (held5 B.c z B.D.n) 129)) = w2 at *
  generalize w1.heap.size = z5 at *
  obtain ⟨t0, t1, t2, t3, t4⟩ := zget HZ.out
  have f0 := HZ.out.frozen 0; have f1 := HZ.out.frozen 1; have f2 := HZ.out.frozen 2; have f3 := HZ.out.frozen 3; have f4 := HZ.out.frozen 4
  obtain ⟨s0, s1, s2, s3, s4⟩ := get5 HR5.out
  clear HZ HR5
  by_cases d1 : B.D.n = 4
  case neg =>
    have HNG : Hid (¬ Wide B) := fun q => d1 q.2
    have e1 : (((B.D.n : Nat) : Int) != 4) = true := by simp; omega
    clear d1
    go_wp2
    refine bodyPost_ret (v := .tuple #[.agg zero5, .bool false]) (by simp [results, Try.results163, go_sem, t0, t1, t2, t3, t4]) rfl ?_
    exact ⟨Or.inr ⟨HNG.out, rfl⟩, set5_blw HB.out (by omega) _ _ _ _ _⟩
  rw [d1] at s4
  have HW : Hid (Wide B) := ⟨HG.out, d1⟩
  have HRL4 : Hid (Row w2 z (4 * 8) (lc B.D.p B.D.m)) := by have h9 := HRL.out; rw [d1] at h9; exact h9
  clear d1 HRL
  go_wp2
  refine bodyPost_ret (v := .tuple #[.agg (held5 B.c z 4), .bool true]) (by simp [results, Try.results163, go_sem, t0, t1, t2, t3, t4]) rfl ?_
  have hz := HZL.out
  exact ⟨Or.inl ⟨z, HW.out, rfl, HRL4.out.mod (set5_mod _ (w.heap.size + 1) _ _ _ _ _) (by omega), by omega⟩, set5_blw HB.out (by omega) _ _ _ _ _⟩
set_option maxRecDepth 10000 in
set_option maxHeartbeats 1600000 in
theorem holdNest_any (v : NV) (D : ND) (Y : Nat → Prop) (w : World) (h : NAt Y w v D) (hY : ∀ x, Y x → x < w.heap.size) :
    Calls Try.prog 111 #[v.val D] w fun e w' => ((∃ z1 z2, D.Good ∧ e = .returned (.tuple #[.agg (held10 D.G.c D.H.c z1 4 z2 4), .bool true]) ∧ Row w' z1 (4 * 8) (lc D.G.D.p D.G.D.m) ∧ Row w' z2 (4 * 8) (lc D.H.D.p D.H.D.m) ∧ w.heap.size ≤ z1 ∧ z1 < z2) ∨ (¬ D.Good ∧ e = .returned (.tuple #[.agg zero10, .bool false]))) ∧ Blw w w' := by
  have hb0 : Blw w ((w.alloc (.cells #[.slice v.g.a1 D.G.n v.g.c1, .slice v.g.a2 D.G.D.n v.g.c2, .slice v.h.a1 D.H.n v.h.c1, .slice v.h.a2 D.H.D.n v.h.c2] 60)).alloc (.cells zero10 138)) := ((Blw.refl _).alloc _).alloc _
  have HA : Hid (NAt Y ((w.alloc (.cells #[.slice v.g.a1 D.G.n v.g.c1, .slice v.g.a2 D.G.D.n v.g.c2, .slice v.h.a1 D.H.n v.h.c1, .slice v.h.a2 D.H.D.n v.h.c2] 60)).alloc (.cells zero10 138)) v D) := h.blw hb0
  have HR : Hid (Row ((w.alloc (.cells #[.slice v.g.a1 D.G.n v.g.c1, .slice v.g.a2 D.G.D.n v.g.c2, .slice v.h.a1 D.H.n v.h.c1, .slice v.h.a2 D.H.D.n v.h.c2] 60)).alloc (.cells zero10 138)) w.heap.size 4 (nb v D)) := (box4 w _ _ _ _ 60).blw ((Blw.refl _).alloc _)
  have rz := box10 (w.alloc (.cells #[.slice v.g.a1 D.G.n v.g.c1, .slice v.g.a2 D.G.D.n v.g.c2, .slice v.h.a1 D.H.n v.h.c1, .slice v.h.a2 D.H.D.n v.h.c2] 60)) (.int .i64 0) (.int .i64 0) (.int .i64 0) (.int .i64 0) (.slice none 0 0) (.int .i64 0) (.int .i64 0) (.int .i64 0) (.int .i64 0) (.slice none 0 0) 138
  rw [World.size_alloc] at rz
  have HZ : Hid (Row ((w.alloc (.cells #[.slice v.g.a1 D.G.n v.g.c1, .slice v.g.a2 D.G.D.n v.g.c2, .slice v.h.a1 D.H.n v.h.c1, .slice v.h.a2 D.H.D.n v.h.c2] 60)).alloc (.cells zero10 138)) (w.heap.size + 1) 10 zten) := rz
  have HB : Hid (Blw w ((w.alloc (.cells #[.slice v.g.a1 D.G.n v.g.c1, .slice v.g.a2 D.G.D.n v.g.c2, .slice v.h.a1 D.H.n v.h.c1, .slice v.h.a2 D.H.D.n v.h.c2] 60)).alloc (.cells zero10 138))) := hb0
  have HSZ : Hid (((w.alloc (.cells #[.slice v.g.a1 D.G.n v.g.c1, .slice v.g.a2 D.G.D.n v.g.c2, .slice v.h.a1 D.H.n v.h.c1, .slice v.h.a2 D.H.D.n v.h.c2] 60)).alloc (.cells zero10 138)).heap.size = w.heap.size + 1 + 1) := by show _ = _; simp
  have HYY : Hid (∀ x, Y x → x < ((w.alloc (.cells #[.slice v.g.a1 D.G.n v.g.c1, .slice v.g.a2 D.G.D.n v.g.c2, .slice v.h.a1 D.H.n v.h.c1, .slice v.h.a2 D.H.D.n v.h.c2] 60)).alloc (.cells zero10 138)).heap.size) := fun x hx => by have := hY x hx; simp; omega
  clear h hb0 rz hY
  go_enter Try.func111, Try.ntmps111
  obtain ⟨p0, p1, p2, p3⟩ := get4 HR.out
  go_wp2_with fail
  clear p0 p1 p2 p3
  generalize ((w.alloc (.cells #[.slice v.g.a1 D.G.n v.g.c1, .slice v.g.a2 D.G.D.n v.g.c2, .slice v.h.a1 D.H.n v.h.c1, .slice v.h.a2 D.H.D.n v.h.c2] 60)).alloc (.cells zero10 138)) = w0 at *
  refine (holdWide_any v.g D.G Y _ HA.out.g HYY.out).mono ?_
  rintro e w1 ⟨h1, hb1⟩
  have hs1 := hb1.size
  have HYY1 : Hid (∀ x, Y x → x < w1.heap.size) := fun x hx => Nat.lt_of_lt_of_le (HYY.out x hx) hs1
  have HS1 : Hid (w.heap.size + 1 + 1 ≤ w1.heap.size) := by have h3 := HSZ.out; show _ ≤ _; omega
  rcases h1 with ⟨z1, hg, rfl, hrow, hlo⟩ | ⟨hg, rfl⟩
  case inr =>
    have hA : Blw w1 (w1.alloc (.cells zero5 129)) := (Blw.refl _).alloc _
    replace HZ : Hid (Row (w1.alloc (.cells zero5 129)) (w.heap.size + 1) 10 zten) := (HZ.out.blw hb1).blw hA
    replace HB : Hid (Blw w (w1.alloc (.cells zero5 129))) := (HB.out.trans hb1).trans hA
    have HG : Hid (¬ D.Good) := fun q => hg ⟨q.g, q.ng⟩
    clear hA hb1 hg HA HYY HSZ HYY1 hs1 HR
    go_upto_region 2 with fail
    generalize (w1.alloc (.cells zero5 129)) = w2 at *
    obtain ⟨t0, t1, t2, t3, t4, t5, t6, t7, t8, t9⟩ := get10 HZ.out
    have f0 := HZ.out.frozen 0; have f1 := HZ.out.frozen 1; have f2 := HZ.out.frozen 2; have f3 := HZ.out.frozen 3; have f4 := HZ.out.frozen 4; have f5 := HZ.out.frozen 5; have f6 := HZ.out.frozen 6; have f7 := HZ.out.frozen 7; have f8 := HZ.out.frozen 8; have f9 := HZ.out.frozen 9
    clear HZ
    go_wp2
    refine bodyPost_ret (v := .tuple #[.agg zero10, .bool false]) (by simp [results, Try.results111, go_sem, t0, t1, t2, t3, t4, t5, t6, t7, t8, t9]) rfl ?_
    exact ⟨Or.inr ⟨HG.out, rfl⟩, set10_blw HB.out (by omega) _ _ _ _ _ _ _ _ _ _⟩
  have hA : Blw w1 (w1.alloc (.cells (held5 D.G.c z1 4) 129)) := (Blw.refl _).alloc _
  have HG5 : Hid (Row (w1.alloc (.cells (held5 D.G.c z1 4) 129)) w1.heap.size 5 (row5f D.G.c (.slice (some ⟨z1, 0, none⟩) 4 4))) := row5 w1 (.int .i64 (D.G.c 0)) (.int .i64 (D.G.c 1)) (.int .i64 (D.G.c 2)) (.int .i64 (D.G.c 3)) (.slice (some ⟨z1, 0, none⟩) 4 4) 129
  have HGL : Hid (Row (w1.alloc (.cells (held5 D.G.c z1 4) 129)) z1 (4 * 8) (lc D.G.D.p D.G.D.m)) := hrow.blw hA
  replace HZ : Hid (Row (w1.alloc (.cells (held5 D.G.c z1 4) 129)) (w.heap.size + 1) 10 zten) := (HZ.out.blw hb1).blw hA
  replace HR : Hid (Row (w1.alloc (.cells (held5 D.G.c z1 4) 129)) w.heap.size 4 (nb v D)) := (HR.out.blw hb1).blw hA
  replace HA : Hid (NAt Y (w1.alloc (.cells (held5 D.G.c z1 4) 129)) v D) := (HA.out.blw hb1).blw hA
  replace HB : Hid (Blw w (w1.alloc (.cells (held5 D.G.c z1 4) 129))) := (HB.out.trans hb1).trans hA
  replace HYY : Hid (∀ x, Y x → x < (w1.alloc (.cells (held5 D.G.c z1 4) 129)).heap.size) := fun x hx => by have := HYY1.out x hx; simp; omega
  have HG : Hid (Wide D.G) := hg
  have HZL : Hid (w.heap.size + 1 + 1 ≤ z1) := by have h3 := HSZ.out; show _ ≤ _; omega
  have HZ5 : Hid (w.heap.size + 1 + 1 ≤ w1.heap.size ∧ w1.heap.size < (w1.alloc (.cells (held5 D.G.c z1 4) 129)).heap.size) := ⟨HS1.out, by simp⟩
  clear hA hb1 hg HSZ hrow hlo HYY1 hs1 HS1
  go_upto_region 2 with fail
  generalize (w1.alloc (.cells (held5 D.G.c z1 4) 129)) = w2 at *
  generalize w1.heap.size = y5 at *
  obtain ⟨p0, p1, p2, p3⟩ := get4 HR.out
  go_wp2_with fail
  clear p0 p1 p2 p3
  refine (holdWide_any v.h D.H Y _ HA.out.h HYY.out).mono ?_
  rintro e w3 ⟨h1, hb1⟩
  rcases h1 with ⟨z2, hg, rfl, hrow, hlo⟩ | ⟨hg, rfl⟩
  case inr =>
    have hA : Blw w3 (w3.alloc (.cells zero5 129)) := (Blw.refl _).alloc _
    replace HZ : Hid (Row (w3.alloc (.cells zero5 129)) (w.heap.size + 1) 10 zten) := (HZ.out.blw hb1).blw hA
    replace HB : Hid (Blw w (w3.alloc (.cells zero5 129))) := (HB.out.trans hb1).trans hA
    have HNG : Hid (¬ D.Good) := fun q => hg ⟨q.h, q.nh⟩
    clear hA hb1 hg HA HYY HR HG HGL HG5
    go_upto_region 5 with fail
    generalize (w3.alloc (.cells zero5 129)) = w4 at *
    obtain ⟨t0, t1, t2, t3, t4, t5, t6, t7, t8, t9⟩ := get10 HZ.out
    have f0 := HZ.out.frozen 0; have f1 := HZ.out.frozen 1; have f2 := HZ.out.frozen 2; have f3 := HZ.out.frozen 3; have f4 := HZ.out.frozen 4; have f5 := HZ.out.frozen 5; have f6 := HZ.out.frozen 6; have f7 := HZ.out.frozen 7; have f8 := HZ.out.frozen 8; have f9 := HZ.out.frozen 9
    clear HZ
    go_wp2
    refine bodyPost_ret (v := .tuple #[.agg zero10, .bool false]) (by simp [results, Try.results111, go_sem, t0, t1, t2, t3, t4, t5, t6, t7, t8, t9]) rfl ?_
    exact ⟨Or.inr ⟨HNG.out, rfl⟩, set10_blw HB.out (by omega) _ _ _ _ _ _ _ _ _ _⟩
  have hA : Blw w3 (w3.alloc (.cells (held5 D.H.c z2 4) 129)) := (Blw.refl _).alloc _
  have HH5 : Hid (Row (w3.alloc (.cells (held5 D.H.c z2 4) 129)) w3.heap.size 5 (row5f D.H.c (.slice (some ⟨z2, 0, none⟩) 4 4))) := row5 w3 (.int .i64 (D.H.c 0)) (.int .i64 (D.H.c 1)) (.int .i64 (D.H.c 2)) (.int .i64 (D.H.c 3)) (.slice (some ⟨z2, 0, none⟩) 4 4) 129
  have HHL : Hid (Row (w3.alloc (.cells (held5 D.H.c z2 4) 129)) z2 (4 * 8) (lc D.H.D.p D.H.D.m)) := hrow.blw hA
  have HZ12 : Hid (z1 < z2) := by have := HGL.out.lt; show _ < _; omega
  replace HZ : Hid (Row (w3.alloc (.cells (held5 D.H.c z2 4) 129)) (w.heap.size + 1) 10 zten) := (HZ.out.blw hb1).blw hA
  replace HG5 : Hid (Row (w3.alloc (.cells (held5 D.H.c z2 4) 129)) y5 5 (row5f D.G.c (.slice (some ⟨z1, 0, none⟩) 4 4))) := (HG5.out.blw hb1).blw hA
  replace HGL : Hid (Row (w3.alloc (.cells (held5 D.H.c z2 4) 129)) z1 (4 * 8) (lc D.G.D.p D.G.D.m)) := (HGL.out.blw hb1).blw hA
  replace HB : Hid (Blw w (w3.alloc (.cells (held5 D.H.c z2 4) 129))) := (HB.out.trans hb1).trans hA
  have HGG : Hid D.Good := ⟨HG.out.1, hg.1, HG.out.2, hg.2⟩
  clear hA hb1 hg hrow hlo HA HYY HR HG
  go_upto_region 5 with fail
  generalize (w3.alloc (.cells (held5 D.H.c z2 4) 129)) = w4 at *
  generalize w3.heap.size = x5 at *
  obtain ⟨t0, t1, t2, t3, t4, t5, t6, t7, t8, t9⟩ := get10 HZ.out
  have f0 := HZ.out.frozen 0; have f1 := HZ.out.frozen 1; have f2 := HZ.out.frozen 2; have f3 := HZ.out.frozen 3; have f4 := HZ.out.frozen 4; have f5 := HZ.out.frozen 5; have f6 := HZ.out.frozen 6; have f7 := HZ.out.frozen 7; have f8 := HZ.out.frozen 8; have f9 := HZ.out.frozen 9
  obtain ⟨s0, s1, s2, s3, s4⟩ := get5 HG5.out
  obtain ⟨u0, u1, u2, u3, u4⟩ := get5 HH5.out
  clear HZ HG5 HH5
  go_wp2
  refine bodyPost_ret (v := .tuple #[.agg (held10 D.G.c D.H.c z1 4 z2 4), .bool true]) (by simp [results, Try.results111, go_sem, t0, t1, t2, t3, t4, t5, t6, t7, t8, t9]) rfl ?_
  have hz := HZL.out
  have hz2 := HZ12.out
  have hm := set10_mod w4 (w.heap.size + 1) (.int .i64 (D.G.c 0)) (.int .i64 (D.G.c 1)) (.int .i64 (D.G.c 2)) (.int .i64 (D.G.c 3)) (.slice (some ⟨z1, 0, none⟩) 4 4) (.int .i64 (D.H.c 0)) (.int .i64 (D.H.c 1)) (.int .i64 (D.H.c 2)) (.int .i64 (D.H.c 3)) (.slice (some ⟨z2, 0, none⟩) 4 4)
  exact ⟨Or.inl ⟨z1, z2, HGG.out, rfl, HGL.out.mod hm (by omega), HHL.out.mod hm (by omega), by omega, hz2⟩, set10_blw HB.out (by omega) _ _ _ _ _ _ _ _ _ _⟩
end Go.Proofs.Ytjplodenflkghaa
/- Nests: the program's GoodNest and WalkNest. -/
namespace Go.Proofs.Ytjplodenflkghaa
open Go.RowKit
set_option linter.unusedSimpArgs false
set_option linter.unusedVariables false
theorem box_h10 (w : World) (D : ND) (z1 z2 : Nat) : Row (w.alloc (.cells (held10 D.G.c D.H.c z1 4 z2 4) 138)) w.heap.size 10 (hten D.G.c D.H.c (.slice (some ⟨z1, 0, none⟩) 4 4) (.slice (some ⟨z2, 0, none⟩) 4 4)) := box10 w _ _ _ _ _ _ _ _ _ _ 138
set_option maxRecDepth 10000 in
set_option maxHeartbeats 1600000 in
theorem implGoodN_any (v : NV) (D : ND) (Y : Nat → Prop) (w : World) (h : NAt Y w v D) (hY : ∀ x, Y x → x < w.heap.size) :
    Calls Try.prog 41 #[v.val D] w fun e w' => ∃ r, e = .returned (.bool r) ∧ (r = true ↔ D.Good) ∧ Blw w w' := by
  have hb0 : Blw w (w.alloc (.cells #[.slice v.g.a1 D.G.n v.g.c1, .slice v.g.a2 D.G.D.n v.g.c2, .slice v.h.a1 D.H.n v.h.c1, .slice v.h.a2 D.H.D.n v.h.c2] 60)) := (Blw.refl _).alloc _
  have HA : Hid (NAt Y (w.alloc (.cells #[.slice v.g.a1 D.G.n v.g.c1, .slice v.g.a2 D.G.D.n v.g.c2, .slice v.h.a1 D.H.n v.h.c1, .slice v.h.a2 D.H.D.n v.h.c2] 60)) v D) := h.blw hb0
  have HR : Hid (Row (w.alloc (.cells #[.slice v.g.a1 D.G.n v.g.c1, .slice v.g.a2 D.G.D.n v.g.c2, .slice v.h.a1 D.H.n v.h.c1, .slice v.h.a2 D.H.D.n v.h.c2] 60)) w.heap.size 4 (nb v D)) := box4 w _ _ _ _ 60
  have HB : Hid (Blw w (w.alloc (.cells #[.slice v.g.a1 D.G.n v.g.c1, .slice v.g.a2 D.G.D.n v.g.c2, .slice v.h.a1 D.H.n v.h.c1, .slice v.h.a2 D.H.D.n v.h.c2] 60))) := hb0
  have HYY : Hid (∀ x, Y x → x < (w.alloc (.cells #[.slice v.g.a1 D.G.n v.g.c1, .slice v.g.a2 D.G.D.n v.g.c2, .slice v.h.a1 D.H.n v.h.c1, .slice v.h.a2 D.H.D.n v.h.c2] 60)).heap.size) := fun x hx => by have := hY x hx; simp; omega
  clear h hb0 hY
  go_enter Try.func41, Try.ntmps41
  obtain ⟨p0, p1, p2, p3⟩ := get4 HR.out
  go_wp2_with fail
  clear p0 p1 p2 p3 HR
  generalize (w.alloc (.cells #[.slice v.g.a1 D.G.n v.g.c1, .slice v.g.a2 D.G.D.n v.g.c2, .slice v.h.a1 D.H.n v.h.c1, .slice v.h.a2 D.H.D.n v.h.c2] 60)) = w0 at *
  refine (holdNest_any v D Y _ HA.out HYY.out).mono ?_
  rintro e w1 ⟨h1, hb1⟩
  rcases h1 with ⟨z1, z2, hg, rfl, hrow, hrow2, hlo, hlo2⟩ | ⟨hg, rfl⟩
  case inr =>
    have FIN : Hid (Blw w (w1.alloc (.cells zero10 138))) := (HB.out.trans hb1).alloc _
    have HG : Hid (¬ D.Good) := hg
    clear hb1 hg HA HYY HB
    go_wp2
    exact bodyPost_ret (v := .bool false) (by simp [results, Try.results41, go_sem]) rfl ⟨_, rfl, iff_f HG.out, FIN.out⟩
  have FIN : Hid (Blw w (w1.alloc (.cells (held10 D.G.c D.H.c z1 4 z2 4) 138))) := (HB.out.trans hb1).alloc _
  have HG : Hid D.Good := hg
  clear hb1 hg HA HYY HB hrow hrow2 hlo hlo2
  go_wp2
  exact bodyPost_ret (v := .bool true) (by simp [results, Try.results41, go_sem]) rfl ⟨_, rfl, iff_t HG.out, FIN.out⟩
set_option maxRecDepth 10000 in
set_option maxHeartbeats 1600000 in
theorem lookUpN_any (D : ND) (z1 z2 a : Nat) (k : Int) (w : World) (g : D.Good) (ha : a < 16) (h1 : Row w z1 (4 * 8) (lc D.G.D.p D.G.D.m)) (h2 : Row w z2 (4 * 8) (lc D.H.D.p D.H.D.m)) :
    Calls Try.prog 116 #[.agg (held10 D.G.c D.H.c z1 4 z2 4), .int .i64 a, .int .i64 k] w fun e w' => ∃ x c, e = .returned (.tuple #[.int .i64 x, .int .i64 c]) ∧ nwOut D.G D.H a k x c ∧ Blw w w' := by
  have hA : Blw w (w.alloc (.cells (held10 D.G.c D.H.c z1 4 z2 4) 138)) := (Blw.refl _).alloc _
  have HR : Hid (Row (w.alloc (.cells (held10 D.G.c D.H.c z1 4 z2 4) 138)) w.heap.size 10 (hten D.G.c D.H.c (.slice (some ⟨z1, 0, none⟩) 4 4) (.slice (some ⟨z2, 0, none⟩) 4 4))) := box_h10 w D z1 z2
  have HG : Hid (Row (w.alloc (.cells (held10 D.G.c D.H.c z1 4 z2 4) 138)) z1 (4 * 8) (lc D.G.D.p D.G.D.m)) := h1.blw hA
  have HH : Hid (Row (w.alloc (.cells (held10 D.G.c D.H.c z1 4 z2 4) 138)) z2 (4 * 8) (lc D.H.D.p D.H.D.m)) := h2.blw hA
  have HB : Hid (Blw w (w.alloc (.cells (held10 D.G.c D.H.c z1 4 z2 4) 138))) := hA
  have HGD : Hid D.Good := g
  have HT1 : Hid (∀ i, i < 4 → -1 ≤ D.G.c i ∧ D.G.c i ≤ ((4 : Nat) : Int) - 1) := fun i hi => by have := g.g.top i (by rw [g.g.n]; exact hi); rw [g.ng] at this; exact this
  have HT2 : Hid (∀ i, i < 4 → -1 ≤ D.H.c i ∧ D.H.c i ≤ ((4 : Nat) : Int) - 1) := fun i hi => by have := g.h.top i (by rw [g.h.n]; exact hi); rw [g.nh] at this; exact this
  have hgp : 0 ≤ gP D.G a ∧ gP D.G a ≤ 15 := (leafs g.g ha).1
  obtain ⟨y, hy⟩ : ∃ y : Nat, gP D.G a = y := ⟨(gP D.G a).toNat, by omega⟩
  have hy16 : y < 16 := by omega
  have HY : Hid (gP D.G a = (y : Int)) := hy
  have HYN : Hid ((gP D.G a).toNat = y) := by show _ = _; rw [hy, Int.toNat_natCast]
  have HX : Hid (fX D.G D.H a = gP D.H y) := by show gP D.H (gP D.G a).toNat = _; rw [hy, Int.toNat_natCast]
  clear h1 h2 hA g hgp hy
  go_enter Try.func116, Try.ntmps116
  obtain ⟨p0, p1, p2, p3, p4, p5, p6, p7, p8, p9⟩ := get10 HR.out
  go_wp2_with fail
  clear p0 p1 p2 p3 p4 p5 p6 p7 p8 p9
  generalize (w.alloc (.cells (held10 D.G.c D.H.c z1 4 z2 4) 138)) = w0 at *
  refine (lookUp_any D.G.c z1 4 D.G.D.p D.G.D.m a k _ (by omega) HT1.out ha HG.out).mono ?_
  rintro e w1 ⟨x, yy, r, rfl, ho, hb1⟩
  replace HR : Hid (Row w1 w.heap.size 10 (hten D.G.c D.H.c (.slice (some ⟨z1, 0, none⟩) 4 4) (.slice (some ⟨z2, 0, none⟩) 4 4))) := HR.out.blw hb1
  replace HH : Hid (Row w1 z2 (4 * 8) (lc D.H.D.p D.H.D.m)) := HH.out.blw hb1
  replace HB : Hid (Blw w w1) := HB.out.trans hb1
  clear hb1 HG
  rcases ho with ⟨e1, ⟨hm, e2, rfl⟩ | ⟨hm, rfl, rfl⟩⟩
  case inr =>
    have FIN : Hid (∃ x c, (Ending.returned (.tuple #[.int .i64 0, .int .i64 1])) = .returned (.tuple #[.int .i64 x, .int .i64 c]) ∧ nwOut D.G D.H a k x c ∧ Blw w w1) := ⟨0, 1, rfl, Or.inl ⟨hm, rfl, rfl⟩, HB.out⟩
    clear hm e1 HR HH HB
    go_wp2
    exact bodyPost_ret (v := .tuple #[.int .i64 0, .int .i64 1]) (by simp [results, Try.results116, go_sem]) rfl FIN.out
  have HM : Hid (hasMay (gM D.G a) k) := hm
  have e3 : x = (y : Int) := e2.trans HY.out
  subst e3
  clear hm e1 e2
  obtain ⟨p0, p1, p2, p3, p4, p5, p6, p7, p8, p9⟩ := get10 HR.out
  go_wp2_with fail
  clear p0 p1 p2 p3 p4 p5 p6 p7 p8 p9
  refine (lookUp_any D.H.c z2 4 D.H.D.p D.H.D.m y k _ (by omega) HT2.out hy16 HH.out).mono ?_
  rintro e w2 ⟨x, yz, r, rfl, ho, hb1⟩
  replace HB : Hid (Blw w w2) := HB.out.trans hb1
  clear hb1 HR HH
  rcases ho with ⟨e1, ⟨hm, rfl, rfl⟩ | ⟨hm, rfl, rfl⟩⟩
  · have FIN : Hid (∃ x' c, (Ending.returned (.tuple #[.int .i64 (lfP D.H.c D.H.D.p y), .int .i64 0])) = .returned (.tuple #[.int .i64 x', .int .i64 c]) ∧ nwOut D.G D.H a k x' c ∧ Blw w w2) := ⟨_, 0, rfl, Or.inr (Or.inr ⟨HM.out, by rw [HYN.out]; exact hm, HX.out.symm, rfl⟩), HB.out⟩
    clear hm e1 HB
    go_wp2
    exact bodyPost_ret (v := .tuple #[.int .i64 (lfP D.H.c D.H.D.p y), .int .i64 0]) (by simp [results, Try.results116, go_sem]) rfl FIN.out
  · have FIN : Hid (∃ x c, (Ending.returned (.tuple #[.int .i64 0, .int .i64 2])) = .returned (.tuple #[.int .i64 x, .int .i64 c]) ∧ nwOut D.G D.H a k x c ∧ Blw w w2) := ⟨0, 2, rfl, Or.inr (Or.inl ⟨HM.out, by rw [HYN.out]; exact hm, rfl, rfl⟩), HB.out⟩
    clear hm e1 HB
    go_wp2
    exact bodyPost_ret (v := .tuple #[.int .i64 0, .int .i64 2]) (by simp [results, Try.results116, go_sem]) rfl FIN.out
set_option maxRecDepth 10000 in
set_option maxHeartbeats 1600000 in
theorem implWalkN_any (v : NV) (D : ND) (a k : Int) (Y : Nat → Prop) (w : World) (h : NAt Y w v D) (hY : ∀ x, Y x → x < w.heap.size) :
    Calls Try.prog 43 #[v.val D, .int .i64 a, .int .i64 k] w fun e w' => ∃ x c r, e = .returned (.tuple #[.int .i64 x, .int .i64 c, .bool r]) ∧ wnOut D a k x c r ∧ Blw w w' := by
  have hb0 : Blw w (w.alloc (.cells #[.slice v.g.a1 D.G.n v.g.c1, .slice v.g.a2 D.G.D.n v.g.c2, .slice v.h.a1 D.H.n v.h.c1, .slice v.h.a2 D.H.D.n v.h.c2] 60)) := (Blw.refl _).alloc _
  have HA : Hid (NAt Y (w.alloc (.cells #[.slice v.g.a1 D.G.n v.g.c1, .slice v.g.a2 D.G.D.n v.g.c2, .slice v.h.a1 D.H.n v.h.c1, .slice v.h.a2 D.H.D.n v.h.c2] 60)) v D) := h.blw hb0
  have HR : Hid (Row (w.alloc (.cells #[.slice v.g.a1 D.G.n v.g.c1, .slice v.g.a2 D.G.D.n v.g.c2, .slice v.h.a1 D.H.n v.h.c1, .slice v.h.a2 D.H.D.n v.h.c2] 60)) w.heap.size 4 (nb v D)) := box4 w _ _ _ _ 60
  have HB : Hid (Blw w (w.alloc (.cells #[.slice v.g.a1 D.G.n v.g.c1, .slice v.g.a2 D.G.D.n v.g.c2, .slice v.h.a1 D.H.n v.h.c1, .slice v.h.a2 D.H.D.n v.h.c2] 60))) := hb0
  have HYY : Hid (∀ x, Y x → x < (w.alloc (.cells #[.slice v.g.a1 D.G.n v.g.c1, .slice v.g.a2 D.G.D.n v.g.c2, .slice v.h.a1 D.H.n v.h.c1, .slice v.h.a2 D.H.D.n v.h.c2] 60)).heap.size) := fun x hx => by have := hY x hx; simp; omega
  clear h hb0 hY
  go_enter Try.func43, Try.ntmps43
  obtain ⟨p0, p1, p2, p3⟩ := get4 HR.out
  go_wp2_with fail
  clear p0 p1 p2 p3 HR
  generalize (w.alloc (.cells #[.slice v.g.a1 D.G.n v.g.c1, .slice v.g.a2 D.G.D.n v.g.c2, .slice v.h.a1 D.H.n v.h.c1, .slice v.h.a2 D.H.D.n v.h.c2] 60)) = w0 at *
  refine (holdNest_any v D Y _ HA.out HYY.out).mono ?_
  rintro e w1 ⟨h1, hb1⟩
  rcases h1 with ⟨z1, z2, hg, rfl, hrow, hrow2, hlo, hlo2⟩ | ⟨hg, rfl⟩
  case inr =>
    have FIN : Hid (Blw w (w1.alloc (.cells zero10 138))) := (HB.out.trans hb1).alloc _
    have HG : Hid (¬ D.Good) := hg
    clear hb1 hg HA HYY HB
    go_wp2
    exact bodyPost_ret (v := .tuple #[.int .i64 0, .int .i64 0, .bool false]) (by simp [results, Try.results43, go_sem]) rfl ⟨_, _, _, rfl, Or.inl ⟨fun q => HG.out q.1, rfl, rfl, rfl⟩, FIN.out⟩
  have hA : Blw w1 (w1.alloc (.cells (held10 D.G.c D.H.c z1 4 z2 4) 138)) := (Blw.refl _).alloc _
  have HB2 : Hid (Blw w (w1.alloc (.cells (held10 D.G.c D.H.c z1 4 z2 4) 138))) := (HB.out.trans hb1).trans hA
  have HG : Hid D.Good := hg
  have HT : Hid (Row (w1.alloc (.cells (held10 D.G.c D.H.c z1 4 z2 4) 138)) w1.heap.size 10 (hten D.G.c D.H.c (.slice (some ⟨z1, 0, none⟩) 4 4) (.slice (some ⟨z2, 0, none⟩) 4 4))) := box_h10 w1 D z1 z2
  have HGL : Hid (Row (w1.alloc (.cells (held10 D.G.c D.H.c z1 4 z2 4) 138)) z1 (4 * 8) (lc D.G.D.p D.G.D.m)) := hrow.blw hA
  have HHL : Hid (Row (w1.alloc (.cells (held10 D.G.c D.H.c z1 4 z2 4) 138)) z2 (4 * 8) (lc D.H.D.p D.H.D.m)) := hrow2.blw hA
  clear hb1 hg HA HYY HB hrow hrow2 hlo hlo2 hA
  go_upto_region 2 with fail
  generalize (w1.alloc (.cells (held10 D.G.c D.H.c z1 4 z2 4) 138)) = w2 at *
  generalize w1.heap.size = zn at *
  go_wp2_with fail
  refine (isPlace_any a _).mono ?_
  rintro e w2 ⟨r, rfl, hr, rfl⟩
  have HTT : Hid (r = true ↔ pgOK a) := hr
  clear hr
  cases r
  · have HN : Hid (¬ pgOK a) := fun g => by have := HTT.out.2 g; simp at this
    clear HTT HT HGL HHL
    go_wp2
    exact bodyPost_ret (v := .tuple #[.int .i64 0, .int .i64 0, .bool false]) (by simp [results, Try.results43, go_sem]) rfl ⟨_, _, _, rfl, Or.inl ⟨fun q => HN.out q.2.1, rfl, rfl, rfl⟩, HB2.out⟩
  have H1 : Hid (pgOK a) := HTT.out.1 (by first | rfl | trivial)
  clear HTT
  go_wp2_with fail
  refine (isMay_any k _).mono ?_
  rintro e w2 ⟨r, rfl, hr, rfl⟩
  have HTT : Hid (r = true ↔ mayOK k) := hr
  clear hr
  cases r
  · have HN : Hid (¬ mayOK k) := fun g => by have := HTT.out.2 g; simp at this
    clear HTT HT HGL HHL
    go_wp2
    exact bodyPost_ret (v := .tuple #[.int .i64 0, .int .i64 0, .bool false]) (by simp [results, Try.results43, go_sem]) rfl ⟨_, _, _, rfl, Or.inl ⟨fun q => HN.out q.2.2, rfl, rfl, rfl⟩, HB2.out⟩
  have H2 : Hid (mayOK k) := HTT.out.1 (by first | rfl | trivial)
  clear HTT
  obtain ⟨x, hx, hx16⟩ : ∃ x : Nat, a = x ∧ x < 16 := ⟨a.toNat, by have := H1.out; unfold pgOK at this; omega, by have := H1.out; unfold pgOK at this; omega⟩
  subst hx
  obtain ⟨p0, p1, p2, p3, p4, p5, p6, p7, p8, p9⟩ := get10 HT.out
  go_wp2_with fail
  clear p0 p1 p2 p3 p4 p5 p6 p7 p8 p9
  refine (lookUpN_any D z1 z2 x k _ HG.out hx16 HGL.out HHL.out).mono ?_
  rintro e w3 ⟨p, c, rfl, ho, hb2⟩
  have FIN : Hid (∃ x' c' r, (Ending.returned (.tuple #[.int .i64 p, .int .i64 c, .bool true])) = .returned (.tuple #[.int .i64 x', .int .i64 c', .bool r]) ∧ wnOut D (x : Int) k x' c' r ∧ Blw w w3) := ⟨p, c, true, rfl, Or.inr ⟨⟨HG.out, H1.out, H2.out⟩, by rw [Int.toNat_natCast]; exact ho, rfl⟩, HB2.out.trans hb2⟩
  clear ho hb2 HB2 HT HGL HHL
  go_wp2
  exact bodyPost_ret (v := .tuple #[.int .i64 p, .int .i64 c, .bool true]) (by simp [results, Try.results43, go_sem]) rfl FIN.out
end Go.Proofs.Ytjplodenflkghaa
/- New walkers: the program's and the model's. -/
namespace Go.Proofs.Ytjplodenflkghaa
open Go.RowKit
set_option linter.unusedSimpArgs false
set_option linter.unusedVariables false
def GivesK (out : KD → Bool → Prop) (w : World) : Ending → World → Prop := fun e w' =>
  ∃ (v : KV) (R : KD) (r : Bool), e = .returned (.tuple #[v.val R, .bool r]) ∧ out R r ∧ R.small ∧ WkOwn (fun x => w.heap.size ≤ x ∧ x < w'.heap.size) w' v R ∧ Blw w w'
def resK (ok : Prop) (V R : KD) (r : Bool) : Prop := (ok ∧ R = V ∧ r = true) ∨ (¬ ok ∧ R = KD.zero ∧ r = false)
theorem resK_same {ok : Prop} {V R R' : KD} {b c : Bool} (h : resK ok V R b) (k : resK ok V R' c) : R = R' ∧ b = c := by
  rcases h with ⟨g, rfl, rfl⟩ | ⟨g, rfl, rfl⟩
  · rcases k with ⟨_, rfl, rfl⟩ | ⟨g', _, _⟩
    · exact ⟨rfl, rfl⟩
    · exact absurd g g'
  · rcases k with ⟨g', _⟩ | ⟨_, rfl, rfl⟩
    · exact absurd g' g
    · exact ⟨rfl, rfl⟩
abbrev own4 (B : BD) : BD := ⟨4, B.c, ⟨B.D.n, fun _ => 4, B.D.p, B.D.m⟩⟩
abbrev nwD (B : BD) : KD := ⟨own4 B, 0, fun _ _ => 0, 0⟩
abbrev set4 (W : World) (z : Nat) (a b c d : Value) : World := (((W.setCell ⟨z, 0, none⟩ a).setCell ⟨z, 1, none⟩ b).setCell ⟨z, 2, none⟩ c).setCell ⟨z, 3, none⟩ d
theorem set4_blw {w W : World} {z : Nat} (h : Blw w W) (hz : w.heap.size ≤ z) (a b c d : Value) : Blw w (set4 W z a b c d) := (((h.setCell hz _).setCell hz _).setCell hz _).setCell hz _
theorem set4_mod (W : World) (z : Nat) (a b c d : Value) : Mod (fun x => x = z) W (set4 W z a b c d) :=
  (((Mod.setCell (X := fun x => x = z) _ (p := ⟨z, 0, none⟩) rfl _).trans (Mod.setCell (X := fun x => x = z) _ (p := ⟨z, 1, none⟩) rfl _)).trans (Mod.setCell (X := fun x => x = z) _ (p := ⟨z, 2, none⟩) rfl _)).trans (Mod.setCell (X := fun x => x = z) _ (p := ⟨z, 3, none⟩) rfl _)
theorem zero_givesK {out : KD → Bool → Prop} {w W : World} {z : Nat} (hz : w.heap.size ≤ z) (ho : out KD.zero false) (hb : Blw w W) :
    GivesK out w (.returned (.tuple #[KV.zero.val KD.zero, .bool false])) (set4 W z (.slice none 0 0) (.slice none 0 0) (.slice none 0 0) (.int .i64 0)) :=
  ⟨KV.zero, KD.zero, false, rfl, ho, ⟨by decide, by decide⟩, WkOwn.zero _ _, set4_blw hb hz _ _ _ _⟩
theorem pass_givesK {out : KD → Bool → Prop} {X : Nat → Prop} {w W : World} {z : Nat} {v : KV} {R : KD} {r : Bool} (hz : w.heap.size ≤ z) (ho : out R r) (hs : R.small) (hb : Blw w W) (own : WkOwn X W v R) (hX : ∀ x, X x → w.heap.size ≤ x ∧ x ≠ z ∧ x < W.heap.size) :
    GivesK out w (.returned (.tuple #[v.val R, .bool r])) (set4 W z (.slice v.b.a1 R.B.n v.b.c1) (.slice v.b.a2 R.B.D.n v.b.c2) (.slice v.a R.n v.q) (.int .i64 R.h)) := by
  have hm := set4_mod W z (.slice v.b.a1 R.B.n v.b.c1) (.slice v.b.a2 R.B.D.n v.b.c2) (.slice v.a R.n v.q) (.int .i64 R.h)
  have := hm.size
  exact ⟨v, R, r, rfl, ho, hs, (own.mod hm (fun x hx e => (hX x hx).2.1 e)).mono (fun x hx => by have := hX x hx; omega), set4_blw hb hz _ _ _ _⟩
theorem own_small {B : BD} (g : B.Good) : (nwD B).small := ⟨tot4 (c := B.c) g.k.2, by show 0 ≤ _; omega⟩
theorem own_wk {X : Nat → Prop} {w : World} {b : BV} {B : BD} (h : BookOwn X w b (own4 B)) : WkOwn X w ⟨b, none, 0⟩ (nwD B) := ⟨X, fun _ => False, fun _ hx => ⟨hx, id⟩, fun _ h => h.elim, h, KOwn.nil _ _ _ _ _⟩
theorem eqnilTIn (d t : Nat) (e : TypeId) (ht : Try.prog.underlying t = some (.slice e)) (w : World) : (Op.equalIn (d + 1) t (.slice none 0 0) (.slice none 0 0)).run Try.prog w = .ok true w := by
  simp [Op.equalIn, run_underlying ht]
theorem eqnilT (t : Nat) (e : TypeId) (ht : Try.prog.underlying t = some (.slice e)) (w : World) : (binOp .eql t (.slice none 0 0) (.slice none 0 0)).run Try.prog w = .ok (.bool true) w := by
  have h1 : (Op.equal t (.slice none 0 0) (.slice none 0 0)).run Try.prog w = .ok true w := by
    exact eqnilTIn 9999 t e ht w
  simp only [binOp]
  simp [h1]
set_option maxHeartbeats 800000 in
theorem cloneNil_any (w : World) : Calls Try.prog 151 #[.slice none 0 0] w fun e w' => e = .returned (.slice none 0 0) ∧ Blw w w' := by
  have hnil := eqnilT 30 122 Try.underlying30
  go_enter Try.func151, Try.ntmps151
  go_wp2
  first | (go_ret; exact ⟨rfl, Blw.refl _⟩) | exact bodyPost_ret (v := .slice none 0 0) (by simp [results, Try.results151, go_sem]) rfl ⟨rfl, Blw.refl _⟩
set_option maxRecDepth 10000 in
set_option maxHeartbeats 3200000 in
theorem specNewW_any (b : BV) (B : BD) (Y : Nat → Prop) (w : World) (hn : B.n ≤ 1048576) (h : BookAt Y w b B) :
    Calls Try.prog 36 #[b.val B] w (GivesK (resK B.Good (nwD B)) w) := by
  have hA1 : Blw w (w.alloc (.cells #[.slice b.a1 B.n b.c1, .slice b.a2 B.D.n b.c2] 29)) := (Blw.refl _).alloc _
  have hA2 : Blw (w.alloc (.cells #[.slice b.a1 B.n b.c1, .slice b.a2 B.D.n b.c2] 29)) ((w.alloc (.cells #[.slice b.a1 B.n b.c1, .slice b.a2 B.D.n b.c2] 29)).alloc (.cells #[.slice none 0 0, .slice none 0 0, .slice none 0 0, .int .i64 0] 32)) := (Blw.refl _).alloc _
  have HB : Hid (Blw w ((w.alloc (.cells #[.slice b.a1 B.n b.c1, .slice b.a2 B.D.n b.c2] 29)).alloc (.cells #[.slice none 0 0, .slice none 0 0, .slice none 0 0, .int .i64 0] 32))) := hA1.trans hA2
  have rR := box4 (w.alloc (.cells #[.slice b.a1 B.n b.c1, .slice b.a2 B.D.n b.c2] 29)) (.slice none 0 0) (.slice none 0 0) (.slice none 0 0) (.int .i64 0) 32
  rw [World.size_alloc] at rR
  have HR : Hid (Row ((w.alloc (.cells #[.slice b.a1 B.n b.c1, .slice b.a2 B.D.n b.c2] 29)).alloc (.cells #[.slice none 0 0, .slice none 0 0, .slice none 0 0, .int .i64 0] 32)) (w.heap.size + 1) 4 (fun i => if i = 0 then .slice none 0 0 else if i = 1 then .slice none 0 0 else if i = 2 then .slice none 0 0 else .int .i64 0)) := rR
  have HA : Hid (BookAt Y ((w.alloc (.cells #[.slice b.a1 B.n b.c1, .slice b.a2 B.D.n b.c2] 29)).alloc (.cells #[.slice none 0 0, .slice none 0 0, .slice none 0 0, .int .i64 0] 32)) b B) := h.blw (hA1.trans hA2)
  have HA0 : Hid (Row ((w.alloc (.cells #[.slice b.a1 B.n b.c1, .slice b.a2 B.D.n b.c2] 29)).alloc (.cells #[.slice none 0 0, .slice none 0 0, .slice none 0 0, .int .i64 0] 32)) w.heap.size 2 (fun i => if i = 0 then .slice b.a1 B.n b.c1 else .slice b.a2 B.D.n b.c2)) := (box2 w _ _ 29).blw hA2
  have HSZ : Hid (w.heap.size + 1 + 1 = ((w.alloc (.cells #[.slice b.a1 B.n b.c1, .slice b.a2 B.D.n b.c2] 29)).alloc (.cells #[.slice none 0 0, .slice none 0 0, .slice none 0 0, .int .i64 0] 32)).heap.size) := by show _ = _; simp
  clear hA1 hA2 rR h
  go_enter Try.func36, Try.ntmps36
  obtain ⟨p0, p1⟩ := get2 HA0.out
  go_wp2_with fail
  clear p0 p1
  generalize ((w.alloc (.cells #[.slice b.a1 B.n b.c1, .slice b.a2 B.D.n b.c2] 29)).alloc (.cells #[.slice none 0 0, .slice none 0 0, .slice none 0 0, .int .i64 0] 32)) = w0 at *
  refine (specGood_any b B Y _ hn HA.out).mono ?_
  rintro e w1 ⟨r, rfl, hr, hb1⟩
  have HT : Hid (r = true ↔ B.Good) := hr
  replace HSZ : Hid (w.heap.size + 1 + 1 ≤ w1.heap.size) := by have := HSZ.out; have := hb1.size; show _ ≤ _; omega
  replace HB : Hid (Blw w w1) := HB.out.trans hb1
  replace HR : Hid (Row w1 (w.heap.size + 1) 4 (fun i => if i = 0 then .slice none 0 0 else if i = 1 then .slice none 0 0 else if i = 2 then .slice none 0 0 else .int .i64 0)) := HR.out.blw hb1
  replace HA0 : Hid (Row w1 w.heap.size 2 (fun i => if i = 0 then .slice b.a1 B.n b.c1 else .slice b.a2 B.D.n b.c2)) := HA0.out.blw hb1
  replace HA : Hid (BookAt Y w1 b B) := HA.out.blw hb1
  clear hr hb1
  cases r
  · have HN : Hid (¬ B.Good) := fun g => by have := HT.out.2 g; simp at this
    obtain ⟨t0, t1, t2, t3⟩ := get4 HR.out
    have f0 := HR.out.frozen 0; have f1 := HR.out.frozen 1; have f2 := HR.out.frozen 2; have f3 := HR.out.frozen 3
    clear HT HR HA0 HA
    go_wp2
    exact bodyPost_ret (v := .tuple #[KV.zero.val KD.zero, .bool false]) (by simp [results, Try.results36, go_sem, t0, t1, t2, t3]) rfl (zero_givesK (z := w.heap.size + 1) (by omega) (Or.inr ⟨HN.out, rfl, rfl⟩) HB.out)
  have HG : Hid (B.Good) := HT.out.1 (by first | rfl | trivial)
  clear HT
  obtain ⟨n, c, ⟨kn, len, p, m⟩⟩ := B
  have hn4 : n = 4 := HG.out.n
  subst hn4
  obtain ⟨p0, p1⟩ := get2 HA0.out
  go_wp2_with fail
  clear p0 p1
  refine (l6Own_any b c kn len p m Y _ HG.out.k.2 (fun i hi => (HG.out.leaf i hi).1) HA.out).mono ?_
  rintro e w2 ⟨b2, rfl, own, hb2⟩
  have hz := HSZ.out
  have hr2 := HR.out.blw hb2
  have hlt := hr2.lt
  have FIN : Hid _ := pass_givesK (out := resK (BD.Good ⟨4, c, ⟨kn, len, p, m⟩⟩) (nwD ⟨4, c, ⟨kn, len, p, m⟩⟩)) (w := w) (W := w2) (z := w.heap.size + 1) (r := true) (by omega) (Or.inl ⟨HG.out, rfl, rfl⟩) (own_small HG.out) (HB.out.trans hb2) (own_wk (B := ⟨4, c, ⟨kn, len, p, m⟩⟩) own) (fun x hx => ⟨by omega, by omega, hx.2⟩)
  obtain ⟨t0, t1, t2, t3⟩ := get4 hr2
  have f0 := hr2.frozen 0; have f1 := hr2.frozen 1; have f2 := hr2.frozen 2; have f3 := hr2.frozen 3
  clear HR HA0 HA own hb2 hr2 hlt hz HB
  go_wp2
  exact bodyPost_ret (v := .tuple #[(KV.mk b2 none 0).val (nwD ⟨4, c, ⟨kn, len, p, m⟩⟩), .bool true]) (by simp [results, Try.results36, go_sem, t0, t1, t2, t3]) rfl FIN.out
set_option maxRecDepth 10000 in
set_option maxHeartbeats 6400000 in
theorem ownNil_any (b : BV) (B : BD) (Y : Nat → Prop) (w : World) (h : BookAt Y w b B) (hY : ∀ x, Y x → x < w.heap.size) :
    Calls Try.prog 93 #[.agg #[.slice b.a1 B.n b.c1, .slice b.a2 B.D.n b.c2, .slice none 0 0, .int .i64 0]] w (GivesK (resK B.Good (nwD B)) w) := by
  have hA1 : Blw w (w.alloc (.cells #[.slice b.a1 B.n b.c1, .slice b.a2 B.D.n b.c2, .slice none 0 0, .int .i64 0] 32)) := (Blw.refl _).alloc _
  have hA2 : Blw (w.alloc (.cells #[.slice b.a1 B.n b.c1, .slice b.a2 B.D.n b.c2, .slice none 0 0, .int .i64 0] 32)) ((w.alloc (.cells #[.slice b.a1 B.n b.c1, .slice b.a2 B.D.n b.c2, .slice none 0 0, .int .i64 0] 32)).alloc (.cells #[.slice none 0 0, .slice none 0 0, .slice none 0 0, .int .i64 0] 32)) := (Blw.refl _).alloc _
  have HB : Hid (Blw w ((w.alloc (.cells #[.slice b.a1 B.n b.c1, .slice b.a2 B.D.n b.c2, .slice none 0 0, .int .i64 0] 32)).alloc (.cells #[.slice none 0 0, .slice none 0 0, .slice none 0 0, .int .i64 0] 32))) := hA1.trans hA2
  have rR := box4 (w.alloc (.cells #[.slice b.a1 B.n b.c1, .slice b.a2 B.D.n b.c2, .slice none 0 0, .int .i64 0] 32)) (.slice none 0 0) (.slice none 0 0) (.slice none 0 0) (.int .i64 0) 32
  rw [World.size_alloc] at rR
  have HR : Hid (Row ((w.alloc (.cells #[.slice b.a1 B.n b.c1, .slice b.a2 B.D.n b.c2, .slice none 0 0, .int .i64 0] 32)).alloc (.cells #[.slice none 0 0, .slice none 0 0, .slice none 0 0, .int .i64 0] 32)) (w.heap.size + 1) 4 (fun i => if i = 0 then .slice none 0 0 else if i = 1 then .slice none 0 0 else if i = 2 then .slice none 0 0 else .int .i64 0)) := rR
  have HA : Hid (BookAt Y ((w.alloc (.cells #[.slice b.a1 B.n b.c1, .slice b.a2 B.D.n b.c2, .slice none 0 0, .int .i64 0] 32)).alloc (.cells #[.slice none 0 0, .slice none 0 0, .slice none 0 0, .int .i64 0] 32)) b B) := h.blw (hA1.trans hA2)
  have HK : Hid (Row ((w.alloc (.cells #[.slice b.a1 B.n b.c1, .slice b.a2 B.D.n b.c2, .slice none 0 0, .int .i64 0] 32)).alloc (.cells #[.slice none 0 0, .slice none 0 0, .slice none 0 0, .int .i64 0] 32)) w.heap.size 4 (fun i => if i = 0 then .slice b.a1 B.n b.c1 else if i = 1 then .slice b.a2 B.D.n b.c2 else if i = 2 then .slice none 0 0 else .int .i64 0)) := (box4 w _ _ _ _ 32).blw hA2
  clear hA1 hA2 rR h
  go_enter Try.func93, Try.ntmps93
  obtain ⟨p0, p1, p2, p3⟩ := get4 HK.out
  go_wp2_with fail
  clear p0 p1 p2 p3
  refine (hold_any b B Y _ HA.out (fun x hx => by have := hY x hx; simp; omega)).mono ?_
  rintro e w1 ⟨h1, hb1⟩
  have HZ : Hid (w.heap.size + 1 + 1 ≤ w1.heap.size) := by have := hb1.size; simp only [World.size_alloc] at this; exact this
  replace HB : Hid (Blw w w1) := HB.out.trans hb1
  replace HR : Hid (Row w1 (w.heap.size + 1) 4 (fun i => if i = 0 then .slice none 0 0 else if i = 1 then .slice none 0 0 else if i = 2 then .slice none 0 0 else .int .i64 0)) := HR.out.blw hb1
  replace HK : Hid (Row w1 w.heap.size 4 (fun i => if i = 0 then .slice b.a1 B.n b.c1 else if i = 1 then .slice b.a2 B.D.n b.c2 else if i = 2 then .slice none 0 0 else .int .i64 0)) := HK.out.blw hb1
  clear hb1 HA
  rcases h1 with ⟨z, hg, rfl, hrow, hlo⟩ | ⟨hg, rfl⟩
  case inr =>
    have HG : Hid (¬ B.Good) := hg
    clear hg
    go_upto_region 3 with fail
    have hA : Blw w1 (w1.alloc (.cells zero5 129)) := (Blw.refl _).alloc _
    replace HR : Hid (Row (w1.alloc (.cells zero5 129)) (w.heap.size + 1) 4 (fun i => if i = 0 then .slice none 0 0 else if i = 1 then .slice none 0 0 else if i = 2 then .slice none 0 0 else .int .i64 0)) := HR.out.blw hA
    replace HB : Hid (Blw w (w1.alloc (.cells zero5 129))) := HB.out.trans hA
    clear HZ hA HK
    generalize w1.alloc (.cells zero5 129) = w2 at *
    obtain ⟨t0, t1, t2, t3⟩ := get4 HR.out
    have f0 := HR.out.frozen 0; have f1 := HR.out.frozen 1; have f2 := HR.out.frozen 2; have f3 := HR.out.frozen 3
    clear HR
    go_wp2
    exact bodyPost_ret (v := .tuple #[KV.zero.val KD.zero, .bool false]) (by simp [results, Try.results93, go_sem, t0, t1, t2, t3]) rfl (zero_givesK (z := w.heap.size + 1) (by omega) (Or.inr ⟨HG.out, rfl, rfl⟩) HB.out)
  have HG : Hid B.Good := hg
  obtain ⟨n, c, ⟨kn, len, p, m⟩⟩ := B
  have hn4 : n = 4 := HG.out.n
  subst hn4
  have hk4 : kn ≤ 4 := HG.out.k.2
  dsimp only at *
  have hA : Blw w1 (w1.alloc (.cells (held5 c z kn) 129)) := (Blw.refl _).alloc _
  have H5 : Hid (Row (w1.alloc (.cells (held5 c z kn) 129)) w1.heap.size 5 (row5f c (.slice (some ⟨z, 0, none⟩) kn kn))) := row5 w1 (.int .i64 (c 0)) (.int .i64 (c 1)) (.int .i64 (c 2)) (.int .i64 (c 3)) (.slice (some ⟨z, 0, none⟩) kn kn) 129
  have HL : Hid (Row (w1.alloc (.cells (held5 c z kn) 129)) z (kn * 8) (lc p m)) := hrow.blw hA
  replace HR : Hid (Row (w1.alloc (.cells (held5 c z kn) 129)) (w.heap.size + 1) 4 (fun i => if i = 0 then .slice none 0 0 else if i = 1 then .slice none 0 0 else if i = 2 then .slice none 0 0 else .int .i64 0)) := HR.out.blw hA
  replace HB : Hid (Blw w (w1.alloc (.cells (held5 c z kn) 129))) := HB.out.trans hA
  replace HK : Hid (Row (w1.alloc (.cells (held5 c z kn) 129)) w.heap.size 4 (fun i => if i = 0 then .slice b.a1 4 b.c1 else if i = 1 then .slice b.a2 kn b.c2 else if i = 2 then .slice none 0 0 else .int .i64 0)) := HK.out.blw hA
  clear hg hA hrow hlo
  go_upto_region 2 with fail
  generalize w1.alloc (.cells (held5 c z kn) 129) = W at *
  generalize w1.heap.size = zb at *
  obtain ⟨p0, p1, p2, p3⟩ := get4 HK.out
  go_wp2_with fail
  clear p0 p1 p2 p3
  go_loopw [36] (fun i wr => i = .int .i64 0 ∧ wr = W) (fun _ _ => 0)
  case atStart => exact ⟨rfl, rfl⟩
  case round =>
    obtain ⟨rfl, rfl⟩ := hrel
    go_upto_region 10 with fail
    replace HR : Hid (Row wr.drew (w.heap.size + 1) 4 (fun i => if i = 0 then .slice none 0 0 else if i = 1 then .slice none 0 0 else if i = 2 then .slice none 0 0 else .int .i64 0)) := HR.out.blw (Blw.refl _).drew
    replace HB : Hid (Blw w wr.drew) := HB.out.drew
    replace HK : Hid (Row wr.drew w.heap.size 4 (fun i => if i = 0 then .slice b.a1 4 b.c1 else if i = 1 then .slice b.a2 kn b.c2 else if i = 2 then .slice none 0 0 else .int .i64 0)) := HK.out.blw (Blw.refl _).drew
    replace H5 : Hid (Row wr.drew zb 5 (row5f c (.slice (some ⟨z, 0, none⟩) kn kn))) := H5.out.blw (Blw.refl _).drew
    replace HL : Hid (Row wr.drew z (kn * 8) (lc p m)) := HL.out.blw (Blw.refl _).drew
    replace HZ : Hid (w.heap.size + 1 < zb ∧ zb < wr.drew.heap.size) := ⟨by have := HZ.out; omega, H5.out.lt⟩
    have P5 : ∀ w', (Row w' zb 5 (row5f c (.slice (some ⟨z, 0, none⟩) kn kn)) ∧ Row w' w.heap.size 4 (fun i => if i = 0 then .slice b.a1 4 b.c1 else if i = 1 then .slice b.a2 kn b.c2 else if i = 2 then .slice none 0 0 else .int .i64 0)) → w'.cell? ⟨zb, 0, none⟩ = some (.int .i64 (c 0)) ∧ w'.cell? ⟨zb, 1, none⟩ = some (.int .i64 (c 1)) ∧ w'.cell? ⟨zb, 2, none⟩ = some (.int .i64 (c 2)) ∧ w'.cell? ⟨zb, 3, none⟩ = some (.int .i64 (c 3)) ∧ w'.cell? ⟨zb, 4, none⟩ = some (.slice (some ⟨z, 0, none⟩) kn kn) := fun w' hh => get5 hh.1
    have P4 : ∀ w', (Row w' zb 5 (row5f c (.slice (some ⟨z, 0, none⟩) kn kn)) ∧ Row w' w.heap.size 4 (fun i => if i = 0 then .slice b.a1 4 b.c1 else if i = 1 then .slice b.a2 kn b.c2 else if i = 2 then .slice none 0 0 else .int .i64 0)) → w'.cell? ⟨w.heap.size, 2, none⟩ = some (.slice none 0 0) ∧ w'.cell? ⟨w.heap.size, 3, none⟩ = some (.int .i64 0) := fun w' hh => (get4 hh.2).2.2
    refine wp_region_noPanic ?_
    refine wp_region_held_drew (S := fun w' => Row w' zb 5 (row5f c (.slice (some ⟨z, 0, none⟩) kn kn)) ∧ Row w' w.heap.size 4 (fun i => if i = 0 then .slice b.a1 4 b.c1 else if i = 1 then .slice b.a2 kn b.c2 else if i = 2 then .slice none 0 0 else .int .i64 0)) (by kernel_rfl) (And.intro H5.out HK.out) (fun hB => ?_)
    clear hB
    generalize wr.drew = wd at *
    refine wpAnyH_take (i := 0) (oi := { dst := some 65, op := Op.load 129 (Operand.tmp 4), type := 129, pos := _, after := #[], guard := none }) (v := (.agg (held5 c z kn))) rfl (by kernel_rfl) (by kernel_rfl) (by kernel_rfl) (fun _ _ _ h => h) (Or.inl ⟨by rfl, fun w' hS => by (try dsimp only at hS); go_simp⟩) (And.intro H5.out HK.out) ?_
    simp only [Act.put, List.setIfInBounds_toArray, List.set_cons_zero, List.set_cons_succ]
    refine wpAnyH_take (i := 2) (oi := { dst := some 67, op := Op.fieldAddr 32 (Operand.tmp 1) 1, type := 0, pos := _, after := #[], guard := none }) (v := (.pointer (some ⟨w.heap.size, 2, none⟩))) rfl (by kernel_rfl) (by kernel_rfl) (by kernel_rfl) (fun _ _ _ h => h) (Or.inl ⟨by rfl, fun w' hS => by (try dsimp only at hS); go_simp⟩) (And.intro H5.out HK.out) ?_
    simp only [Act.put, List.setIfInBounds_toArray, List.set_cons_zero, List.set_cons_succ]
    refine wpAnyH_take (i := 5) (oi := { dst := some 70, op := Op.fieldAddr 32 (Operand.tmp 1) 2, type := 0, pos := _, after := #[], guard := none }) (v := (.pointer (some ⟨w.heap.size, 3, none⟩))) rfl (by kernel_rfl) (by kernel_rfl) (by kernel_rfl) (fun _ _ _ h => h) (Or.inl ⟨by rfl, fun w' hS => by (try dsimp only at hS); go_simp⟩) (And.intro H5.out HK.out) ?_
    simp only [Act.put, List.setIfInBounds_toArray, List.set_cons_zero, List.set_cons_succ]
    refine wpAnyH_take (i := 3) (oi := { dst := some 68, op := Op.load 30 (Operand.tmp 67), type := 30, pos := _, after := #[{ on := 2, ground := Ground.data }], guard := none }) (v := (.slice none 0 0)) rfl (by kernel_rfl) (by kernel_rfl) (by kernel_rfl) (fun _ _ _ h => h) (Or.inl ⟨by rfl, fun w' hS => by (try dsimp only at hS); go_simp⟩) (And.intro H5.out HK.out) ?_
    simp only [Act.put, List.setIfInBounds_toArray, List.set_cons_zero, List.set_cons_succ]
    refine wpAnyH_take (i := 6) (oi := { dst := some 71, op := Op.load 3 (Operand.tmp 70), type := 3, pos := _, after := #[{ on := 5, ground := Ground.data }], guard := none }) (v := (.int .i64 0)) rfl (by kernel_rfl) (by kernel_rfl) (by kernel_rfl) (fun _ _ _ h => h) (Or.inl ⟨by rfl, fun w' hS => by (try dsimp only at hS); go_simp⟩) (And.intro H5.out HK.out) ?_
    simp only [Act.put, List.setIfInBounds_toArray, List.set_cons_zero, List.set_cons_succ]
    refine wpAnyH_ready (rs := [1]) (by kernel_rfl) (by simp) ?_
    refine AllReadyH.cons (o := { dst := some 66, op := Op.call { callee := Callee.value (Operand.func 113), args := #[Operand.tmp 65], argTypes := #[129] }, type := 29, pos := _, after := #[{ on := 0, ground := Ground.data }], guard := none }) rfl (fun K hK => ?_) AllReadyH.nil
    go_simp
    refine (giveOut_any c z kn p m _ hk4 HL.out).mono ?_
    rintro e w2 ⟨b2, rfl, own, hb2⟩
    replace HR : Hid (Row w2 (w.heap.size + 1) 4 (fun i => if i = 0 then .slice none 0 0 else if i = 1 then .slice none 0 0 else if i = 2 then .slice none 0 0 else .int .i64 0)) := HR.out.blw hb2
    replace HB : Hid (Blw w w2) := HB.out.trans hb2
    replace HK : Hid (Row w2 w.heap.size 4 (fun i => if i = 0 then .slice b.a1 4 b.c1 else if i = 1 then .slice b.a2 kn b.c2 else if i = 2 then .slice none 0 0 else .int .i64 0)) := HK.out.blw hb2
    replace H5 : Hid (Row w2 zb 5 (row5f c (.slice (some ⟨z, 0, none⟩) kn kn))) := H5.out.blw hb2
    have HO : Hid (BookOwn (fun x => zb < x ∧ x < w2.heap.size) w2 b2 ⟨4, c, ⟨kn, fun _ => 4, p, m⟩⟩) := own.mono (fun x hx => ⟨by have := HZ.out; omega, hx.2⟩)
    clear own hb2 HL
    refine hK.out _ _ (And.intro H5.out HK.out) (fun hB => ?_)
    clear hK K hB
    try simp only [Act.put, List.setIfInBounds_toArray, List.set_cons_zero, List.set_cons_succ]
    refine wpAnyH_ready (rs := [4]) (by kernel_rfl) (by simp) ?_
    refine AllReadyH.cons (o := { dst := some 69, op := Op.call { callee := Callee.value (Operand.func 151), args := #[Operand.tmp 68], argTypes := #[30] }, type := 30, pos := _, after := #[{ on := 3, ground := Ground.data }, { on := 1, ground := Ground.chain }], guard := none }) rfl (fun K hK => ?_) AllReadyH.nil
    go_simp
    refine (cloneNil_any _).mono ?_
    rintro e w3 ⟨rfl, hb2⟩
    replace HR : Hid (Row w3 (w.heap.size + 1) 4 (fun i => if i = 0 then .slice none 0 0 else if i = 1 then .slice none 0 0 else if i = 2 then .slice none 0 0 else .int .i64 0)) := HR.out.blw hb2
    replace HB : Hid (Blw w w3) := HB.out.trans hb2
    replace HK : Hid (Row w3 w.heap.size 4 (fun i => if i = 0 then .slice b.a1 4 b.c1 else if i = 1 then .slice b.a2 kn b.c2 else if i = 2 then .slice none 0 0 else .int .i64 0)) := HK.out.blw hb2
    replace H5 : Hid (Row w3 zb 5 (row5f c (.slice (some ⟨z, 0, none⟩) kn kn))) := H5.out.blw hb2
    replace HO : Hid (BookOwn (fun x => zb < x ∧ x < w3.heap.size) w3 b2 ⟨4, c, ⟨kn, fun _ => 4, p, m⟩⟩) := (HO.out.blw hb2).mono (fun x hx => ⟨hx.1, Nat.lt_of_lt_of_le hx.2 hb2.size⟩)
    clear hb2
    refine hK.out _ _ (And.intro H5.out HK.out) (fun hB => ?_)
    clear hK K hB
    try simp only [Act.put, List.setIfInBounds_toArray, List.set_cons_zero, List.set_cons_succ]
    refine wpAnyH_take (i := 7) (oi := { dst := some 72, op := Op.build 32 #[(0, Operand.tmp 66), (1, Operand.tmp 69), (2, Operand.tmp 71)], type := 32, pos := _, after := #[{ on := 1, ground := Ground.data }, { on := 4, ground := Ground.data }, { on := 6, ground := Ground.data }], guard := none }) (v := (.agg #[.slice b2.a1 4 b2.c1, .slice b2.a2 kn b2.c2, .slice none 0 0, .int .i64 0])) rfl (by kernel_rfl) (by kernel_rfl) (by kernel_rfl) (fun _ _ _ h => h) (Or.inl ⟨by rfl, fun w' hS => by (try dsimp only at hS); go_simp⟩) (And.intro H5.out HK.out) ?_
    simp only [Act.put, List.setIfInBounds_toArray, List.set_cons_zero, List.set_cons_succ]
    refine wpAnyH_ready (rs := [8]) (by kernel_rfl) (by simp) ?_
    refine AllReadyH.cons (o := { dst := none, op := Op.store 32 (Operand.tmp 2) (Operand.tmp 72), type := 0, pos := _, after := #[{ on := 7, ground := Ground.data }, { on := 4, ground := Ground.chain }, { on := 0, ground := Ground.phase }, { on := 1, ground := Ground.phase }, { on := 2, ground := Ground.phase }, { on := 3, ground := Ground.phase }, { on := 4, ground := Ground.phase }, { on := 5, ground := Ground.phase }, { on := 6, ground := Ground.phase }, { on := 7, ground := Ground.phase }], guard := none }) rfl (fun K hK => ?_) AllReadyH.nil
    obtain ⟨t0, t1, t2, t3⟩ := get4 HR.out
    have f0 := HR.out.frozen 0; have f1 := HR.out.frozen 1; have f2 := HR.out.frozen 2; have f3 := HR.out.frozen 3
    have hz := HZ.out
    have FIN : Hid _ := pass_givesK (out := resK (BD.Good ⟨4, c, ⟨kn, len, p, m⟩⟩) (nwD ⟨4, c, ⟨kn, len, p, m⟩⟩)) (w := w) (W := w3) (z := w.heap.size + 1) (r := true) (by omega) (Or.inl ⟨HG.out, rfl, rfl⟩) (own_small HG.out) HB.out (own_wk (B := ⟨4, c, ⟨kn, len, p, m⟩⟩) HO.out) (fun x hx => ⟨by omega, by omega, hx.2⟩)
    have hm4 := set4_mod w3 (w.heap.size + 1) (.slice b2.a1 4 b2.c1) (.slice b2.a2 kn b2.c2) (.slice none 0 0) (.int .i64 0)
    have hSt := And.intro (H5.out.mod hm4 (by omega)) (HK.out.mod hm4 (by omega))
    clear hm4
    go_simp
    refine hK.out _ _ hSt (fun hB => ?_)
    clear hK K hB
    try simp only [Act.put, List.setIfInBounds_toArray, List.set_cons_zero, List.set_cons_succ]
    refine wpAnyH_take (i := 9) (oi := { dst := some 3, op := Op.assign (Operand.const (Value.bool true)), type := 4, pos := _, after := #[{ on := 8, ground := Ground.chain }, { on := 0, ground := Ground.phase }, { on := 1, ground := Ground.phase }, { on := 2, ground := Ground.phase }, { on := 3, ground := Ground.phase }, { on := 4, ground := Ground.phase }, { on := 5, ground := Ground.phase }, { on := 6, ground := Ground.phase }, { on := 7, ground := Ground.phase }, { on := 8, ground := Ground.phase }], guard := none }) (v := (.bool true)) rfl (by kernel_rfl) (by kernel_rfl) (by kernel_rfl) (fun _ _ _ h => h) (Or.inl ⟨by rfl, fun w' hS => by (try dsimp only at hS); go_simp⟩) hSt ?_
    simp only [Act.put, List.setIfInBounds_toArray, List.set_cons_zero, List.set_cons_succ]
    refine wpAnyH_done (by kernel_rfl) ?_ _
    refine NoPanic.normal ?_
    clear hSt HR HB HK H5 HO P5 P4 HZ hz
    go_wp2
    exact bodyPost_ret (v := .tuple #[(KV.mk b2 none 0).val (nwD ⟨4, c, ⟨kn, len, p, m⟩⟩), .bool true]) (by simp [results, Try.results93, go_sem, t0, t1, t2, t3]) rfl FIN.out
set_option maxRecDepth 10000 in
set_option maxHeartbeats 3200000 in
theorem implNewW_any (b : BV) (B : BD) (Y : Nat → Prop) (w : World) (h : BookAt Y w b B) (hY : ∀ x, Y x → x < w.heap.size) :
    Calls Try.prog 35 #[b.val B] w (GivesK (resK B.Good (nwD B)) w) := by
  have hA1 : Blw w (w.alloc (.cells #[.slice b.a1 B.n b.c1, .slice b.a2 B.D.n b.c2] 29)) := (Blw.refl _).alloc _
  have hA2 : Blw (w.alloc (.cells #[.slice b.a1 B.n b.c1, .slice b.a2 B.D.n b.c2] 29)) ((w.alloc (.cells #[.slice b.a1 B.n b.c1, .slice b.a2 B.D.n b.c2] 29)).alloc (.cells #[.slice none 0 0, .slice none 0 0, .slice none 0 0, .int .i64 0] 32)) := (Blw.refl _).alloc _
  have HB : Hid (Blw w ((w.alloc (.cells #[.slice b.a1 B.n b.c1, .slice b.a2 B.D.n b.c2] 29)).alloc (.cells #[.slice none 0 0, .slice none 0 0, .slice none 0 0, .int .i64 0] 32))) := hA1.trans hA2
  have rR := box4 (w.alloc (.cells #[.slice b.a1 B.n b.c1, .slice b.a2 B.D.n b.c2] 29)) (.slice none 0 0) (.slice none 0 0) (.slice none 0 0) (.int .i64 0) 32
  rw [World.size_alloc] at rR
  have HR : Hid (Row ((w.alloc (.cells #[.slice b.a1 B.n b.c1, .slice b.a2 B.D.n b.c2] 29)).alloc (.cells #[.slice none 0 0, .slice none 0 0, .slice none 0 0, .int .i64 0] 32)) (w.heap.size + 1) 4 (fun i => if i = 0 then .slice none 0 0 else if i = 1 then .slice none 0 0 else if i = 2 then .slice none 0 0 else .int .i64 0)) := rR
  have HA : Hid (BookAt Y ((w.alloc (.cells #[.slice b.a1 B.n b.c1, .slice b.a2 B.D.n b.c2] 29)).alloc (.cells #[.slice none 0 0, .slice none 0 0, .slice none 0 0, .int .i64 0] 32)) b B) := h.blw (hA1.trans hA2)
  have HA0 : Hid (Row ((w.alloc (.cells #[.slice b.a1 B.n b.c1, .slice b.a2 B.D.n b.c2] 29)).alloc (.cells #[.slice none 0 0, .slice none 0 0, .slice none 0 0, .int .i64 0] 32)) w.heap.size 2 (fun i => if i = 0 then .slice b.a1 B.n b.c1 else .slice b.a2 B.D.n b.c2)) := (box2 w _ _ 29).blw hA2
  have HSZ : Hid (w.heap.size + 1 + 1 = ((w.alloc (.cells #[.slice b.a1 B.n b.c1, .slice b.a2 B.D.n b.c2] 29)).alloc (.cells #[.slice none 0 0, .slice none 0 0, .slice none 0 0, .int .i64 0] 32)).heap.size) := by show _ = _; simp
  clear hA1 hA2 rR h
  go_enter Try.func35, Try.ntmps35
  obtain ⟨p0, p1⟩ := get2 HA0.out
  go_wp2_with fail
  clear p0 p1
  generalize ((w.alloc (.cells #[.slice b.a1 B.n b.c1, .slice b.a2 B.D.n b.c2] 29)).alloc (.cells #[.slice none 0 0, .slice none 0 0, .slice none 0 0, .int .i64 0] 32)) = w0 at *
  refine (ownNil_any b B Y _ HA.out (fun x hx => by have := hY x hx; have := HSZ.out; omega)).mono ?_
  rintro e w1 ⟨v, R, r, rfl, ho, hs, own, hb1⟩
  have hz := HSZ.out
  have hr2 := HR.out.blw hb1
  have FIN : Hid _ := pass_givesK (w := w) (W := w1) (z := w.heap.size + 1) (by omega) ho hs (HB.out.trans hb1) own (fun x hx => ⟨by omega, by omega, hx.2⟩)
  obtain ⟨t0, t1, t2, t3⟩ := get4 hr2
  have f0 := hr2.frozen 0; have f1 := hr2.frozen 1; have f2 := hr2.frozen 2; have f3 := hr2.frozen 3
  clear HR HA0 HA own hb1 hr2 hz HB ho hs HSZ
  go_wp2
  exact bodyPost_ret (v := .tuple #[v.val R, .bool r]) (by simp [results, Try.results35, go_sem, t0, t1, t2, t3]) rfl FIN.out
end Go.Proofs.Ytjplodenflkghaa
/- Nests: the host's leaf set, by the model. -/
namespace Go.Proofs.Ytjplodenflkghaa
open Go.RowKit
set_option linter.unusedSimpArgs false
set_option linter.unusedVariables false
/-- A page of the host that may just so much. -/
def hsOK (D : ND) (a was : Int) : Prop := D.Good ∧ pgOK a ∧ gM D.H a.toNat = was
def hsOut (D : ND) (a was y : Int) (R : ND) (r : Bool) : Prop :=
  (hsOK D a was ∧ (∃ q, goes D.H.c D.H.D.n (a.toNat / 4) q ∧ R = ⟨own4 D.G, chB D.H a.toNat q (gP D.H a.toNat) y⟩) ∧ r = true) ∨ (¬ hsOK D a was ∧ R = ND.zero ∧ r = false)
theorem hsOut_same {D : ND} {a was y : Int} {R R' : ND} {r r' : Bool} (h : hsOut D a was y R r) (h' : hsOut D a was y R' r') : R = R' ∧ r = r' := by
  rcases h with ⟨g, ⟨q, hq, rfl⟩, rfl⟩ | ⟨g, rfl, rfl⟩ <;> rcases h' with ⟨g', ⟨q', hq', rfl⟩, rfl⟩ | ⟨g', rfl, rfl⟩
  · rw [goes_uniq hq hq']; exact ⟨rfl, rfl⟩
  · exact absurd g g'
  · exact absurd g' g
  · exact ⟨rfl, rfl⟩
theorem zero_givesN {out : ND → Bool → Prop} {w W : World} {z : Nat} (hz : w.heap.size ≤ z) (ho : out ND.zero false) (hb : Blw w W) :
    GivesN out w (.returned (.tuple #[NV.zero.val ND.zero, .bool false])) (set4 W z (.slice none 0 0) (.slice none 0 0) (.slice none 0 0) (.slice none 0 0)) :=
  ⟨NV.zero, ND.zero, false, rfl, ho, ⟨by decide, by decide⟩, NOwn.zero _ _, set4_blw hb hz _ _ _ _⟩
theorem pass_givesN {out : ND → Bool → Prop} {X : Nat → Prop} {w W : World} {z : Nat} {v : NV} {R : ND} {r : Bool} (hz : w.heap.size ≤ z) (ho : out R r) (hs : R.small) (hb : Blw w W) (own : NOwn X W v R) (hX : ∀ x, X x → w.heap.size ≤ x ∧ x ≠ z ∧ x < W.heap.size) :
    GivesN out w (.returned (.tuple #[v.val R, .bool r])) (set4 W z (.slice v.g.a1 R.G.n v.g.c1) (.slice v.g.a2 R.G.D.n v.g.c2) (.slice v.h.a1 R.H.n v.h.c1) (.slice v.h.a2 R.H.D.n v.h.c2)) := by
  have hm := set4_mod W z (.slice v.g.a1 R.G.n v.g.c1) (.slice v.g.a2 R.G.D.n v.g.c2) (.slice v.h.a1 R.H.n v.h.c1) (.slice v.h.a2 R.H.D.n v.h.c2)
  have h1 := hm.size
  exact ⟨v, R, r, rfl, ho, hs, (own.mod hm (fun x hx e => (hX x hx).2.1 e)).mono (fun x hx => by have := hX x hx; omega), set4_blw hb hz _ _ _ _⟩
theorem small4 {c : Nat → Int} {kn : Nat} {p m : Nat → Nat → Int} (h : kn ≤ 4) : BD.small ⟨4, c, ⟨kn, fun _ => 4, p, m⟩⟩ := tot4 (c := c) h
theorem l6OwnB_any (b : BV) (B : BD) (Y : Nat → Prop) (w : World) (g : B.Good) (h : BookAt Y w b B) :
    Calls Try.prog 108 #[b.val B] w fun e w' => ∃ b' : BV, e = .returned (b'.val (own4 B)) ∧ BookOwn (fun x => w.heap.size ≤ x ∧ x < w'.heap.size) w' b' (own4 B) ∧ Blw w w' := by
  obtain ⟨n, c, ⟨kn, len, p, m⟩⟩ := B
  have hn4 : n = 4 := g.n
  subst hn4
  exact l6Own_any b c kn len p m Y w g.k.2 (fun i hi => (g.leaf i hi).1) h
set_option maxRecDepth 10000 in
set_option maxHeartbeats 3200000 in
theorem l8Set_any (v : NV) (D : ND) (a was y : Int) (Y : Nat → Prop) (w : World) (hw : 1 ≤ was ∧ was ≤ 3) (hy : mayOK y) (hg : D.G.n ≤ 1048576) (hh : D.H.n ≤ 1048576) (h : NAt Y w v D) :
    Calls Try.prog 124 #[v.val D, .int .i64 a, .int .i64 was, .int .i64 y] w (GivesN (hsOut D a was y) w) := by
  have hA1 : Blw w (w.alloc (.cells #[.slice v.g.a1 D.G.n v.g.c1, .slice v.g.a2 D.G.D.n v.g.c2, .slice v.h.a1 D.H.n v.h.c1, .slice v.h.a2 D.H.D.n v.h.c2] 60)) := (Blw.refl _).alloc _
  have hA2 : Blw (w.alloc (.cells #[.slice v.g.a1 D.G.n v.g.c1, .slice v.g.a2 D.G.D.n v.g.c2, .slice v.h.a1 D.H.n v.h.c1, .slice v.h.a2 D.H.D.n v.h.c2] 60)) ((w.alloc (.cells #[.slice v.g.a1 D.G.n v.g.c1, .slice v.g.a2 D.G.D.n v.g.c2, .slice v.h.a1 D.H.n v.h.c1, .slice v.h.a2 D.H.D.n v.h.c2] 60)).alloc (.cells #[.slice none 0 0, .slice none 0 0, .slice none 0 0, .slice none 0 0] 60)) := (Blw.refl _).alloc _
  have rz := box4 (w.alloc (.cells #[.slice v.g.a1 D.G.n v.g.c1, .slice v.g.a2 D.G.D.n v.g.c2, .slice v.h.a1 D.H.n v.h.c1, .slice v.h.a2 D.H.D.n v.h.c2] 60)) (.slice none 0 0) (.slice none 0 0) (.slice none 0 0) (.slice none 0 0) 60
  rw [World.size_alloc] at rz
  have HZ : Hid (Row ((w.alloc (.cells #[.slice v.g.a1 D.G.n v.g.c1, .slice v.g.a2 D.G.D.n v.g.c2, .slice v.h.a1 D.H.n v.h.c1, .slice v.h.a2 D.H.D.n v.h.c2] 60)).alloc (.cells #[.slice none 0 0, .slice none 0 0, .slice none 0 0, .slice none 0 0] 60)) (w.heap.size + 1) 4 (fun i => if i = 0 then .slice none 0 0 else if i = 1 then .slice none 0 0 else if i = 2 then .slice none 0 0 else .slice none 0 0)) := rz
  have HR : Hid (Row ((w.alloc (.cells #[.slice v.g.a1 D.G.n v.g.c1, .slice v.g.a2 D.G.D.n v.g.c2, .slice v.h.a1 D.H.n v.h.c1, .slice v.h.a2 D.H.D.n v.h.c2] 60)).alloc (.cells #[.slice none 0 0, .slice none 0 0, .slice none 0 0, .slice none 0 0] 60)) w.heap.size 4 (nb v D)) := (box4 w _ _ _ _ 60).blw hA2
  have HN : Hid (NAt Y ((w.alloc (.cells #[.slice v.g.a1 D.G.n v.g.c1, .slice v.g.a2 D.G.D.n v.g.c2, .slice v.h.a1 D.H.n v.h.c1, .slice v.h.a2 D.H.D.n v.h.c2] 60)).alloc (.cells #[.slice none 0 0, .slice none 0 0, .slice none 0 0, .slice none 0 0] 60)) v D) := h.blw (hA1.trans hA2)
  have HB : Hid (Blw w ((w.alloc (.cells #[.slice v.g.a1 D.G.n v.g.c1, .slice v.g.a2 D.G.D.n v.g.c2, .slice v.h.a1 D.H.n v.h.c1, .slice v.h.a2 D.H.D.n v.h.c2] 60)).alloc (.cells #[.slice none 0 0, .slice none 0 0, .slice none 0 0, .slice none 0 0] 60))) := hA1.trans hA2
  have HSZ : Hid (w.heap.size + 1 + 1 = ((w.alloc (.cells #[.slice v.g.a1 D.G.n v.g.c1, .slice v.g.a2 D.G.D.n v.g.c2, .slice v.h.a1 D.H.n v.h.c1, .slice v.h.a2 D.H.D.n v.h.c2] 60)).alloc (.cells #[.slice none 0 0, .slice none 0 0, .slice none 0 0, .slice none 0 0] 60)).heap.size) := by show _ = _; simp
  clear hA1 hA2 rz h
  go_enter Try.func124, Try.ntmps124
  obtain ⟨p0, p1, p2, p3⟩ := get4 HR.out
  go_wp2_with fail
  clear p0 p1 p2 p3
  generalize ((w.alloc (.cells #[.slice v.g.a1 D.G.n v.g.c1, .slice v.g.a2 D.G.D.n v.g.c2, .slice v.h.a1 D.H.n v.h.c1, .slice v.h.a2 D.H.D.n v.h.c2] 60)).alloc (.cells #[.slice none 0 0, .slice none 0 0, .slice none 0 0, .slice none 0 0] 60)) = w0 at *
  refine (specGoodN_any v D Y _ hg hh HN.out).mono ?_
  rintro e w1 ⟨r, rfl, hr, hb1⟩
  have HT : Hid (r = true ↔ D.Good) := hr
  have HS : Hid (w.heap.size + 1 + 1 ≤ w1.heap.size) := by have := HSZ.out; have := hb1.size; show _ ≤ _; omega
  replace HN : Hid (NAt Y w1 v D) := HN.out.blw hb1
  replace HR : Hid (Row w1 w.heap.size 4 (nb v D)) := HR.out.blw hb1
  replace HZ : Hid (Row w1 (w.heap.size + 1) 4 (fun i => if i = 0 then .slice none 0 0 else if i = 1 then .slice none 0 0 else if i = 2 then .slice none 0 0 else .slice none 0 0)) := HZ.out.blw hb1
  replace HB : Hid (Blw w w1) := HB.out.trans hb1
  clear hb1 hr HSZ
  cases r
  · have HNG : Hid (¬ hsOK D a was) := fun q => by have := HT.out.2 q.1; simp at this
    obtain ⟨t0, t1, t2, t3⟩ := get4 HZ.out
    have f0 := HZ.out.frozen 0; have f1 := HZ.out.frozen 1; have f2 := HZ.out.frozen 2; have f3 := HZ.out.frozen 3
    clear HR HN HZ
    go_wp2
    exact bodyPost_ret (v := .tuple #[NV.zero.val ND.zero, .bool false]) (by simp [results, Try.results124, go_sem, t0, t1, t2, t3]) rfl (zero_givesN (z := w.heap.size + 1) (by omega) (Or.inr ⟨HNG.out, rfl, rfl⟩) HB.out)
  have HG : Hid D.Good := HT.out.1 (by first | rfl | trivial)
  clear HT
  go_wp2_with fail
  refine (l6At_any a _).mono ?_
  rintro e w1 ⟨r, rfl, hr, rfl⟩
  have HT : Hid (r = true ↔ pgOK a) := hr
  clear hr
  cases r
  · have HNG : Hid (¬ hsOK D a was) := fun q => by have := HT.out.2 q.2.1; simp at this
    obtain ⟨t0, t1, t2, t3⟩ := get4 HZ.out
    have f0 := HZ.out.frozen 0; have f1 := HZ.out.frozen 1; have f2 := HZ.out.frozen 2; have f3 := HZ.out.frozen 3
    clear HR HN HZ
    go_wp2
    exact bodyPost_ret (v := .tuple #[NV.zero.val ND.zero, .bool false]) (by simp [results, Try.results124, go_sem, t0, t1, t2, t3]) rfl (zero_givesN (z := w.heap.size + 1) (by omega) (Or.inr ⟨HNG.out, rfl, rfl⟩) HB.out)
  have H1 : Hid (pgOK a) := HT.out.1 (by first | rfl | trivial)
  clear HT
  obtain ⟨x, hx, hx16⟩ : ∃ x : Nat, a = x ∧ x < 16 := ⟨a.toNat, by have := H1.out; unfold pgOK at this; omega, by have := H1.out; unfold pgOK at this; omega⟩
  subst hx
  obtain ⟨p0, p1, p2, p3⟩ := get4 HR.out
  go_wp2_with fail
  clear p0 p1 p2 p3
  refine (l6FindB_any v.h D.H x Y _ HG.out.h hx16 HN.out.h).mono ?_
  rintro e w2 ⟨rfl, hb2⟩
  replace HN : Hid (NAt Y w2 v D) := HN.out.blw hb2
  replace HR : Hid (Row w2 w.heap.size 4 (nb v D)) := HR.out.blw hb2
  replace HZ : Hid (Row w2 (w.heap.size + 1) 4 (fun i => if i = 0 then .slice none 0 0 else if i = 1 then .slice none 0 0 else if i = 2 then .slice none 0 0 else .slice none 0 0)) := HZ.out.blw hb2
  replace HB : Hid (Blw w w2) := HB.out.trans hb2
  replace HS : Hid (w.heap.size + 1 + 1 ≤ w2.heap.size) := by have := HS.out; have := hb2.size; show _ ≤ _; omega
  clear hb2
  have hfm := fieldMay (gP D.H x) (gM D.H x)
  by_cases hd : gM D.H x = was
  case neg =>
    have e1 : (gM D.H x != was) = true := by simp; exact hd
    have HNG : Hid (¬ hsOK D (x : Int) was) := fun q => hd (by have := q.2.2; rw [Int.toNat_natCast] at this; exact this)
    obtain ⟨t0, t1, t2, t3⟩ := get4 HZ.out
    have f0 := HZ.out.frozen 0; have f1 := HZ.out.frozen 1; have f2 := HZ.out.frozen 2; have f3 := HZ.out.frozen 3
    clear HR HN HZ
    go_wp2
    exact bodyPost_ret (v := .tuple #[NV.zero.val ND.zero, .bool false]) (by simp [results, Try.results124, go_sem, t0, t1, t2, t3]) rfl (zero_givesN (z := w.heap.size + 1) (by omega) (Or.inr ⟨HNG.out, rfl, rfl⟩) HB.out)
  have e1 : (gM D.H x != was) = false := by simp; exact hd
  have HOK : Hid (hsOK D (x : Int) was) := ⟨HG.out, H1.out, by rw [Int.toNat_natCast]; exact hd⟩
  have HM : Hid (¬ gM D.H x = 0 ∧ mayOK y) := ⟨by omega, hy⟩
  have HGO : Hid (∃ q, goes D.H.c D.H.D.n (x / 4) q) := by
    have ht := HG.out.h.top (x / 4) (by rw [HG.out.h.n]; omega)
    obtain ⟨q, hq, -⟩ := lf_top (kn := D.H.D.n) (m := D.H.D.m) HM.out.1 ht
    exact ⟨q, Or.inl hq⟩
  obtain ⟨p0, p1, p2, p3⟩ := get4 HR.out
  clear hd
  go_wp2_with fail
  clear p0 p1 p2 p3 hfm e1
  refine (specProt_any v.h D.H (x : Int) y Y _ hh HN.out.h).mono ?_
  rintro e w3 ⟨b3, R3, r3, rfl, ho, hs3, own3, hb3⟩
  have HO : Hid (∃ q, goes D.H.c D.H.D.n (x / 4) q ∧ R3 = chB D.H x q (gP D.H x) y) := by
    rcases ho with ⟨_, ⟨q, hq, e⟩, _⟩ | ⟨hn, _, _⟩
    · rw [Int.toNat_natCast] at hq e; exact ⟨q, hq, e⟩
    · exact absurd ⟨HG.out.h, H1.out, ⟨by rw [Int.toNat_natCast]; exact HM.out.1, HM.out.2⟩, by rw [Int.toNat_natCast]; exact HGO.out⟩ hn
  obtain ⟨q, hq, e3⟩ := HO.out
  have HQ : Hid (goes D.H.c D.H.D.n (x / 4) q) := hq
  have HE3 : Hid (R3 = chB D.H x q (gP D.H x) y) := e3
  have hA : Blw w3 (w3.alloc (.cells #[.slice b3.a1 R3.n b3.c1, .slice b3.a2 R3.D.n b3.c2] 29)) := (Blw.refl _).alloc _
  have HT2 : Hid (Row (w3.alloc (.cells #[.slice b3.a1 R3.n b3.c1, .slice b3.a2 R3.D.n b3.c2] 29)) w3.heap.size 2 (fun i => if i = 0 then .slice b3.a1 R3.n b3.c1 else .slice b3.a2 R3.D.n b3.c2)) := box2 w3 _ _ 29
  have HO3 : Hid (BookOwn (fun x => w2.heap.size ≤ x ∧ x < w3.heap.size) (w3.alloc (.cells #[.slice b3.a1 R3.n b3.c1, .slice b3.a2 R3.D.n b3.c2] 29)) b3 R3) := own3.blw hA
  have hs23 := hb3.size
  have HS3 : Hid (w.heap.size + 1 + 1 ≤ w2.heap.size ∧ w2.heap.size ≤ w3.heap.size ∧ (w3.alloc (.cells #[.slice b3.a1 R3.n b3.c1, .slice b3.a2 R3.D.n b3.c2] 29)).heap.size = w3.heap.size + 1) := ⟨HS.out, hs23, by simp⟩
  replace HN : Hid (NAt Y (w3.alloc (.cells #[.slice b3.a1 R3.n b3.c1, .slice b3.a2 R3.D.n b3.c2] 29)) v D) := (HN.out.blw hb3).blw hA
  replace HR : Hid (Row (w3.alloc (.cells #[.slice b3.a1 R3.n b3.c1, .slice b3.a2 R3.D.n b3.c2] 29)) w.heap.size 4 (nb v D)) := (HR.out.blw hb3).blw hA
  replace HZ : Hid (Row (w3.alloc (.cells #[.slice b3.a1 R3.n b3.c1, .slice b3.a2 R3.D.n b3.c2] 29)) (w.heap.size + 1) 4 (fun i => if i = 0 then .slice none 0 0 else if i = 1 then .slice none 0 0 else if i = 2 then .slice none 0 0 else .slice none 0 0)) := (HZ.out.blw hb3).blw hA
  replace HB : Hid (Blw w (w3.alloc (.cells #[.slice b3.a1 R3.n b3.c1, .slice b3.a2 R3.D.n b3.c2] 29))) := (HB.out.trans hb3).trans hA
  clear HO hq e3 ho own3 hb3 hA hs23 HS HM HGO
  go_upto_region 4 with fail
  generalize (w3.alloc (.cells #[.slice b3.a1 R3.n b3.c1, .slice b3.a2 R3.D.n b3.c2] 29)) = w4 at *
  generalize w2.heap.size = z2 at *
  generalize w3.heap.size = z3 at *
  clear w1
  replace HN : Hid (NAt Y w4.drew v D) := HN.out.blw (Blw.refl _).drew
  replace HR : Hid (Row w4.drew w.heap.size 4 (nb v D)) := HR.out.blw (Blw.refl _).drew
  replace HZ : Hid (Row w4.drew (w.heap.size + 1) 4 (fun i => if i = 0 then .slice none 0 0 else if i = 1 then .slice none 0 0 else if i = 2 then .slice none 0 0 else .slice none 0 0)) := HZ.out.blw (Blw.refl _).drew
  replace HB : Hid (Blw w w4.drew) := HB.out.drew
  replace HT2 : Hid (Row w4.drew z3 2 (fun i => if i = 0 then .slice b3.a1 R3.n b3.c1 else .slice b3.a2 R3.D.n b3.c2)) := HT2.out.blw (Blw.refl _).drew
  replace HO3 : Hid (BookOwn (fun x => z2 ≤ x ∧ x < z3) w4.drew b3 R3) := HO3.out.blw (Blw.refl _).drew
  have HSW : Hid (z3 < w4.drew.heap.size) := by have := HS3.out; show _ < _; simp; omega
  have P0 : ∀ w', (Row w' w.heap.size 4 (nb v D) ∧ Row w' z3 2 (fun i => if i = 0 then .slice b3.a1 R3.n b3.c1 else .slice b3.a2 R3.D.n b3.c2)) → w'.cell? ⟨w.heap.size, 0, none⟩ = some (.slice v.g.a1 D.G.n v.g.c1) ∧ w'.cell? ⟨w.heap.size, 1, none⟩ = some (.slice v.g.a2 D.G.D.n v.g.c2) := fun w' hh => ⟨(get4 hh.1).1, (get4 hh.1).2.1⟩
  have P1 : ∀ w', (Row w' w.heap.size 4 (nb v D) ∧ Row w' z3 2 (fun i => if i = 0 then .slice b3.a1 R3.n b3.c1 else .slice b3.a2 R3.D.n b3.c2)) → w'.cell? ⟨z3, 0, none⟩ = some (.slice b3.a1 R3.n b3.c1) ∧ w'.cell? ⟨z3, 1, none⟩ = some (.slice b3.a2 R3.D.n b3.c2) := fun w' hh => get2 hh.2
  refine wp_region_noPanic ?_
  refine wp_region_held_drew (S := (fun w' => Row w' w.heap.size 4 (nb v D) ∧ Row w' z3 2 (fun i => if i = 0 then .slice b3.a1 R3.n b3.c1 else .slice b3.a2 R3.D.n b3.c2))) (by kernel_rfl) (And.intro HR.out HT2.out) (fun hB => ?_)
  clear hB
  generalize w4.drew = wd at *
  refine wpAnyH_take (i := 0) (oi := { dst := some 38, op := Op.fieldAddr 60 (Operand.tmp 4) 0, type := 0, pos := _, after := #[], guard := none }) (v := (.pointer (some ⟨w.heap.size, 0, none⟩))) rfl (by kernel_rfl) (by kernel_rfl) (by kernel_rfl) (fun _ _ _ h => h) (Or.inl ⟨by rfl, fun w' hS => by (try dsimp only at hS); go_simp⟩) (And.intro HR.out HT2.out) ?_
  simp only [Act.put, List.setIfInBounds_toArray, List.set_cons_zero, List.set_cons_succ]
  refine wpAnyH_take (i := 3) (oi := { dst := some 41, op := Op.load 29 (Operand.tmp 10), type := 29, pos := _, after := #[], guard := none }) (v := (.agg #[.slice b3.a1 R3.n b3.c1, .slice b3.a2 R3.D.n b3.c2])) rfl (by kernel_rfl) (by kernel_rfl) (by kernel_rfl) (fun _ _ _ h => h) (Or.inl ⟨by rfl, fun w' hS => by (try dsimp only at hS); go_simp⟩) (And.intro HR.out HT2.out) ?_
  simp only [Act.put, List.setIfInBounds_toArray, List.set_cons_zero, List.set_cons_succ]
  refine wpAnyH_take (i := 1) (oi := { dst := some 39, op := Op.load 29 (Operand.tmp 38), type := 29, pos := _, after := #[{ on := 0, ground := Ground.data }], guard := none }) (v := (.agg #[.slice v.g.a1 D.G.n v.g.c1, .slice v.g.a2 D.G.D.n v.g.c2])) rfl (by kernel_rfl) (by kernel_rfl) (by kernel_rfl) (fun _ _ _ h => h) (Or.inl ⟨by rfl, fun w' hS => by (try dsimp only at hS); go_simp⟩) (And.intro HR.out HT2.out) ?_
  simp only [Act.put, List.setIfInBounds_toArray, List.set_cons_zero, List.set_cons_succ]
  refine wpAnyH_ready (rs := [2]) (by kernel_rfl) (by simp) ?_
  refine AllReadyH.cons (o := { dst := some 40, op := Op.call { callee := Callee.value (Operand.func 108), args := #[Operand.tmp 39], argTypes := #[29] }, type := 29, pos := _, after := #[{ on := 1, ground := Ground.data }], guard := none }) rfl (fun K hK => ?_) AllReadyH.nil
  go_simp
  refine (l6OwnB_any v.g D.G Y _ HG.out.g HN.out.g).mono ?_
  rintro e wn ⟨gn, rfl, owng, hbn⟩
  have HRn : Hid (Row wn w.heap.size 4 (nb v D)) := HR.out.blw hbn
  have HZn : Hid (Row wn (w.heap.size + 1) 4 (fun i => if i = 0 then .slice none 0 0 else if i = 1 then .slice none 0 0 else if i = 2 then .slice none 0 0 else .slice none 0 0)) := HZ.out.blw hbn
  have HTn : Hid (Row wn z3 2 (fun i => if i = 0 then .slice b3.a1 R3.n b3.c1 else .slice b3.a2 R3.D.n b3.c2)) := HT2.out.blw hbn
  have HBn : Hid (Blw w wn) := HB.out.trans hbn
  have hsn := hbn.size
  have HOW : Hid (NOwn (fun x => w.heap.size + 1 + 1 ≤ x ∧ x < wn.heap.size) wn ⟨gn, b3⟩ ⟨own4 D.G, R3⟩) := by
    have h3 := HS3.out
    have h4 := HSW.out
    exact ⟨fun x => z3 < x ∧ x < wn.heap.size, fun x => z2 ≤ x ∧ x < z3, fun x hx => ⟨⟨by omega, by omega⟩, by omega⟩, fun x hx => ⟨by omega, by omega⟩, owng.mono (fun x hx => ⟨by omega, hx.2⟩), HO3.out.blw hbn⟩
  clear owng hbn hsn
  refine hK.out _ _ (And.intro HRn.out HTn.out) (fun hB => ?_)
  clear hK K hB
  try simp only [Act.put, List.setIfInBounds_toArray, List.set_cons_zero, List.set_cons_succ]
  refine wpAnyH_take (i := 4) (oi := { dst := some 42, op := Op.build 60 #[(0, Operand.tmp 40), (1, Operand.tmp 41)], type := 60, pos := _, after := #[{ on := 2, ground := Ground.data }, { on := 3, ground := Ground.data }], guard := none }) (v := (.agg #[.slice gn.a1 4 gn.c1, .slice gn.a2 D.G.D.n gn.c2, .slice b3.a1 R3.n b3.c1, .slice b3.a2 R3.D.n b3.c2])) rfl (by kernel_rfl) (by kernel_rfl) (by kernel_rfl) (fun _ _ _ h => h) (Or.inl ⟨by rfl, fun w' hS => by (try dsimp only at hS); go_simp⟩) (And.intro HRn.out HTn.out) ?_
  simp only [Act.put, List.setIfInBounds_toArray, List.set_cons_zero, List.set_cons_succ]
  refine wpAnyH_ready (rs := [5]) (by kernel_rfl) (by simp) ?_
  refine AllReadyH.cons (o := { dst := none, op := Op.store 60 (Operand.tmp 8) (Operand.tmp 42), type := 0, pos := _, after := #[{ on := 4, ground := Ground.data }, { on := 2, ground := Ground.chain }, { on := 0, ground := Ground.phase }, { on := 1, ground := Ground.phase }, { on := 2, ground := Ground.phase }, { on := 3, ground := Ground.phase }, { on := 4, ground := Ground.phase }], guard := none }) rfl (fun K hK => ?_) AllReadyH.nil
  obtain ⟨t0, t1, t2, t3⟩ := get4 HZn.out
  have f0 := HZn.out.frozen 0; have f1 := HZn.out.frozen 1; have f2 := HZn.out.frozen 2; have f3 := HZn.out.frozen 3
  go_simp
  have hm4 := set4_mod wn (w.heap.size + 1) (.slice gn.a1 4 gn.c1) (.slice gn.a2 D.G.D.n gn.c2) (.slice b3.a1 R3.n b3.c1) (.slice b3.a2 R3.D.n b3.c2)
  have hzz := HS3.out
  refine hK.out _ _ (And.intro (HRn.out.mod hm4 (by omega)) (HTn.out.mod hm4 (by omega))) (fun hB => ?_)
  clear hK K hB
  try simp only [Act.put, List.setIfInBounds_toArray, List.set_cons_zero, List.set_cons_succ]
  refine wpAnyH_take (i := 6) (oi := { dst := some 9, op := Op.assign (Operand.const (Value.bool true)), type := 4, pos := _, after := #[{ on := 5, ground := Ground.chain }, { on := 0, ground := Ground.phase }, { on := 1, ground := Ground.phase }, { on := 2, ground := Ground.phase }, { on := 3, ground := Ground.phase }, { on := 4, ground := Ground.phase }, { on := 5, ground := Ground.phase }], guard := none }) (v := (.bool true)) rfl (by kernel_rfl) (by kernel_rfl) (by kernel_rfl) (fun _ _ _ h => h) (Or.inl ⟨by rfl, fun w' hS => by (try dsimp only at hS); go_simp⟩) (And.intro (HRn.out.mod hm4 (by omega)) (HTn.out.mod hm4 (by omega))) ?_
  simp only [Act.put, List.setIfInBounds_toArray, List.set_cons_zero, List.set_cons_succ]
  refine wpAnyH_done (by kernel_rfl) ?_ _
  refine NoPanic.normal ?_
  try clear hm4
  have FIN : Hid _ := pass_givesN (out := hsOut D (x : Int) was y) (w := w) (W := wn) (z := w.heap.size + 1) (v := ⟨gn, b3⟩) (R := ⟨own4 D.G, R3⟩) (r := true) (by omega) (Or.inl ⟨HOK.out, ⟨q, by rw [Int.toNat_natCast]; exact HQ.out, by rw [Int.toNat_natCast, HE3.out]⟩, rfl⟩) ⟨small4 HG.out.g.k.2, by rw [HE3.out]; exact small4 HG.out.h.k.2⟩ HBn.out HOW.out (fun x hx => ⟨by omega, by omega, hx.2⟩)
  clear P0 P1 HRn HZn HTn HBn HOW HN HR HZ HB HT2 HO3
  go_wp2
  refine bodyPost_ret (v := .tuple #[.agg #[.slice gn.a1 4 gn.c1, .slice gn.a2 D.G.D.n gn.c2, .slice b3.a1 R3.n b3.c1, .slice b3.a2 R3.D.n b3.c2], .bool true]) (by simp [results, Try.results124, go_sem, t0, t1, t2, t3]) rfl ?_
  exact FIN.out
end Go.Proofs.Ytjplodenflkghaa
/- A leaf laid into the host's table, that stands behind the guest's in one box. -/
namespace Go.Proofs.Ytjplodenflkghaa
open Go.RowKit
set_option linter.unusedSimpArgs false
set_option linter.unusedVariables false
theorem hten_top {w : World} {z : Nat} {G c : Nat → Int} {v u : Value} (r : Row w z 10 (hten G c v u)) {i : Nat} (hi : i < 4) : w.cell? ⟨z, 5 + i, none⟩ = some (.int .i64 (c i)) := by
  rw [r.cell (i := 5 + i) (by omega)]
  match i, hi with
  | 0, _ => rfl
  | 1, _ => rfl
  | 2, _ => rfl
  | 3, _ => rfl
theorem get10h {w : World} {z : Nat} {G c : Nat → Int} {v u : Value} (r : Row w z 10 (hten G c v u)) : w.cell? ⟨z, 5, none⟩ = some (.int .i64 (c 0)) ∧ w.cell? ⟨z, 6, none⟩ = some (.int .i64 (c 1)) ∧ w.cell? ⟨z, 7, none⟩ = some (.int .i64 (c 2)) ∧ w.cell? ⟨z, 8, none⟩ = some (.int .i64 (c 3)) ∧ w.cell? ⟨z, 9, none⟩ = some u := by
  obtain ⟨-, -, -, -, -, h5, h6, h7, h8, h9⟩ := get10 r
  exact ⟨h5, h6, h7, h8, h9⟩
theorem hten_set {w : World} {z : Nat} {G c : Nat → Int} {v u : Value} (r : Row w z 10 (hten G c v u)) {t : Nat} (ht : t < 4) (x : Int) : Row (w.setCell ⟨z, 5 + t, none⟩ (.int .i64 x)) z 10 (hten G (upd c t x) v u) :=
  (r.set (5 + t) _).congr fun j hj => by
    rcases (show t = 0 ∨ t = 1 ∨ t = 2 ∨ t = 3 by omega) with rfl | rfl | rfl | rfl <;>
    match j, hj with
    | 0, _ => rfl
    | 1, _ => rfl
    | 2, _ => rfl
    | 3, _ => rfl
    | 4, _ => rfl
    | 5, _ => rfl
    | 6, _ => rfl
    | 7, _ => rfl
    | 8, _ => rfl
    | 9, _ => rfl
set_option maxRecDepth 10000 in
set_option maxHeartbeats 6400000 in
theorem putH_any (G : Nat → Int) (V : Value) (c : Nat → Int) (zl kn : Nat) (p m : Nat → Nat → Int) (zb a : Nat) (x y : Int) (w : World) (hk : kn ≤ 4) (ht : ∀ i, i < 4 → -1 ≤ c i ∧ c i ≤ (kn : Int) - 1) (ha : a < 16) (hz : zb ≠ zl) (h5 : Row w zb 10 (hten G c V (.slice (some ⟨zl, 0, none⟩) kn kn))) (hl : Row w zl (kn * 8) (lc p m)) :
    Calls Try.prog 168 #[.pointer (some ⟨zb, 5, none⟩), .int .i64 a, .agg #[.int .i64 x, .int .i64 y]] w fun e w' => ((∃ q : Nat, goes c kn (a / 4) q ∧ e = .returned (.bool true) ∧ Row w' zb 10 (hten G (topsOf c (a / 4) q (upd2 p q (a % 4) x q) (upd2 m q (a % 4) y q)) V (.slice (some ⟨zl, 0, none⟩) kn kn)) ∧ Row w' zl (kn * 8) (lc (upd2 p q (a % 4) x) (upd2 m q (a % 4) y)) ∧ Mod (fun b => b = zb ∨ b = zl) w w') ∨ ((¬ ∃ q, goes c kn (a / 4) q) ∧ e = .returned (.bool false) ∧ Blw w w')) := by
  have hA : Blw w (w.alloc (.cells #[.int .i64 x, .int .i64 y] 144)) := (Blw.refl _).alloc _
  have HF : Hid (Row (w.alloc (.cells #[.int .i64 x, .int .i64 y] 144)) w.heap.size 2 (fun i => if i = 0 then .int .i64 x else .int .i64 y)) := box2 w _ _ 144
  have H5 : Hid (Row (w.alloc (.cells #[.int .i64 x, .int .i64 y] 144)) zb 10 (hten G c V (.slice (some ⟨zl, 0, none⟩) kn kn))) := h5.blw hA
  have HL : Hid (Row (w.alloc (.cells #[.int .i64 x, .int .i64 y] 144)) zl (kn * 8) (lc p m)) := hl.blw hA
  have HM : Hid (Mod (fun b => b = zb ∨ b = zl) w (w.alloc (.cells #[.int .i64 x, .int .i64 y] 144))) := hA.mod _
  have HA : Hid (Blw w (w.alloc (.cells #[.int .i64 x, .int .i64 y] 144))) := hA
  have hbl := h5.lt
  have hll := hl.lt
  have hd : Int.tdiv (a : Int) 4 = ((a / 4 : Nat) : Int) := by rw [Int.tdiv_eq_ediv_of_nonneg (by omega)]; rfl
  have hr : Int.tmod (a : Int) 4 = ((a % 4 : Nat) : Int) := by rw [Int.tmod_eq_emod_of_nonneg (by omega)]; rfl
  have hd4 : a / 4 < 4 := by omega
  have hr4 : a % 4 < 4 := by omega
  have htop := ht (a / 4) hd4
  have hd4' : ((a / 4 : Nat) : Int) < 4 := by omega
  have hr4' : ((a % 4 : Nat) : Int) < 4 := by omega
  clear hA h5 hl ht
  go_enter Try.func168, Try.ntmps168
  generalize a / 4 = t at *
  generalize a % 4 = j at *
  by_cases h0 : 0 ≤ c t
  · obtain ⟨q, hq⟩ : ∃ q : Nat, c t = q := ⟨(c t).toNat, by omega⟩
    have hqk : q < kn := by omega
    have HGO : Hid (goes c kn t q) := Or.inl hq
    have dq : ((q : Int) == -1) = false := by simp
    have g1 : (w.alloc (.cells #[.int .i64 x, .int .i64 y] 144)).cell? ⟨zb, 5 + t, none⟩ = some (.int .i64 q) := by rw [hten_top H5.out hd4, hq]
    replace H5 : Hid (Row (w.alloc (.cells #[.int .i64 x, .int .i64 y] 144)) zb 10 (hten G (upd c t q) V (.slice (some ⟨zl, 0, none⟩) kn kn))) := by rw [upd_self hq]; exact H5.out
    clear h0 htop hq HA
    go_upto_region 7 with fail
    clear g1 dq
    generalize w.alloc (.cells #[.int .i64 x, .int .i64 y] 144) = W at *
    have hqk' : (q : Int) < (kn : Int) := by omega
    have PT : ∀ w', Row w' zb 10 (hten G (upd c t q) V (.slice (some ⟨zl, 0, none⟩) kn kn)) → w'.cell? ⟨zb, 5 + t, none⟩ = some (.int .i64 q) := fun w' hh => by rw [hten_top hh hd4, upd_at]
    have P4 : ∀ w', Row w' zb 10 (hten G (upd c t q) V (.slice (some ⟨zl, 0, none⟩) kn kn)) → w'.cell? ⟨zb, 9, none⟩ = some (.slice (some ⟨zl, 0, none⟩) kn kn) := fun w' hh => (get10h hh).2.2.2.2
    replace HF : Hid (Row W.drew w.heap.size 2 (fun i => if i = 0 then .int .i64 x else .int .i64 y)) := HF.out.blw (Blw.refl _).drew
    replace H5 : Hid (Row W.drew zb 10 (hten G (upd c t q) V (.slice (some ⟨zl, 0, none⟩) kn kn))) := H5.out.blw (Blw.refl _).drew
    replace HL : Hid (Row W.drew zl (kn * 8) (lc p m)) := HL.out.blw (Blw.refl _).drew
    replace HM : Hid (Mod (fun b => b = zb ∨ b = zl) w W.drew) := HM.out.trans ((Blw.refl _).drew.mod _)
    refine wp_region_noPanic ?_
    refine wp_region_held_drew (S := fun w' => Row w' zb 10 (hten G (upd c t q) V (.slice (some ⟨zl, 0, none⟩) kn kn))) (by kernel_rfl) H5.out (fun hB => ?_)
    clear hB
    generalize W.drew = wd at *
    refine wpAnyH_take (i := 0) (oi := { dst := some 33, op := Op.move (Operand.tmp 0), type := 212, pos := _, after := #[], guard := none }) (v := (.pointer (some ⟨zb, 5, none⟩))) rfl (by kernel_rfl) (by kernel_rfl) (by kernel_rfl) (fun _ _ _ h => h) (Or.inl ⟨by rfl, fun w' hS => by (try dsimp only at hS); go_simp⟩) H5.out ?_
    simp only [Act.put, List.setIfInBounds_toArray, List.set_cons_zero, List.set_cons_succ]
    refine wpAnyH_take (i := 4) (oi := { dst := some 37, op := Op.move (Operand.tmp 7), type := 213, pos := _, after := #[], guard := none }) (v := (.pointer (some ⟨zb, 5 + t, none⟩))) rfl (by kernel_rfl) (by kernel_rfl) (by kernel_rfl) (fun _ _ _ h => h) (Or.inl ⟨by rfl, fun w' hS => by (try dsimp only at hS); go_simp⟩) H5.out ?_
    simp only [Act.put, List.setIfInBounds_toArray, List.set_cons_zero, List.set_cons_succ]
    refine wpAnyH_take (i := 1) (oi := { dst := some 34, op := Op.nilCheck (Operand.tmp 33), type := 0, pos := _, after := #[{ on := 0, ground := Ground.data }], guard := none }) (v := (.pointer (some ⟨zb, 5, none⟩))) rfl (by kernel_rfl) (by kernel_rfl) (by kernel_rfl) (fun _ _ _ h => h) (Or.inl ⟨by rfl, fun w' hS => by (try dsimp only at hS); go_simp⟩) H5.out ?_
    simp only [Act.put, List.setIfInBounds_toArray, List.set_cons_zero, List.set_cons_succ]
    refine wpAnyH_take (i := 5) (oi := { dst := some 38, op := Op.nilCheck (Operand.tmp 37), type := 0, pos := _, after := #[{ on := 4, ground := Ground.data }], guard := none }) (v := (.pointer (some ⟨zb, 5 + t, none⟩))) rfl (by kernel_rfl) (by kernel_rfl) (by kernel_rfl) (fun _ _ _ h => h) (Or.inl ⟨by rfl, fun w' hS => by (try dsimp only at hS); go_simp⟩) H5.out ?_
    simp only [Act.put, List.setIfInBounds_toArray, List.set_cons_zero, List.set_cons_succ]
    refine wpAnyH_take (i := 2) (oi := { dst := some 35, op := Op.fieldAddr 129 (Operand.tmp 34) 1, type := 0, pos := _, after := #[{ on := 1, ground := Ground.data }], guard := none }) (v := (.pointer (some ⟨zb, 9, none⟩))) rfl (by kernel_rfl) (by kernel_rfl) (by kernel_rfl) (fun _ _ _ h => h) (Or.inl ⟨by rfl, fun w' hS => by (try dsimp only at hS); go_simp⟩) H5.out ?_
    simp only [Act.put, List.setIfInBounds_toArray, List.set_cons_zero, List.set_cons_succ]
    refine wpAnyH_take (i := 6) (oi := { dst := some 39, op := Op.load 3 (Operand.tmp 38), type := 3, pos := _, after := #[{ on := 5, ground := Ground.data }], guard := none }) (v := (.int .i64 q)) rfl (by kernel_rfl) (by kernel_rfl) (by kernel_rfl) (fun _ _ _ h => h) (Or.inl ⟨by rfl, fun w' hS => by (try dsimp only at hS); go_simp⟩) H5.out ?_
    simp only [Act.put, List.setIfInBounds_toArray, List.set_cons_zero, List.set_cons_succ]
    refine wpAnyH_take (i := 3) (oi := { dst := some 36, op := Op.load 127 (Operand.tmp 35), type := 127, pos := _, after := #[{ on := 2, ground := Ground.data }], guard := none }) (v := (.slice (some ⟨zl, 0, none⟩) kn kn)) rfl (by kernel_rfl) (by kernel_rfl) (by kernel_rfl) (fun _ _ _ h => h) (Or.inl ⟨by rfl, fun w' hS => by (try dsimp only at hS); go_simp⟩) H5.out ?_
    simp only [Act.put, List.setIfInBounds_toArray, List.set_cons_zero, List.set_cons_succ]
    refine wpAnyH_take (i := 7) (oi := { dst := some 40, op := Op.indexAddr 127 (Operand.tmp 36) (Operand.tmp 39), type := 0, pos := _, after := #[{ on := 3, ground := Ground.data }, { on := 6, ground := Ground.data }], guard := none }) (v := (.pointer (some ⟨zl, q * 8, none⟩))) rfl (by kernel_rfl) (by kernel_rfl) (by kernel_rfl) (fun _ _ _ h => h) (Or.inl ⟨by rfl, fun w' hS => by (try dsimp only at hS); go_simp⟩) H5.out ?_
    simp only [Act.put, List.setIfInBounds_toArray, List.set_cons_zero, List.set_cons_succ]
    refine wpAnyH_take (i := 8) (oi := { dst := some 10, op := Op.assign (Operand.tmp 40), type := 216, pos := _, after := #[{ on := 7, ground := Ground.data }, { on := 0, ground := Ground.phase }, { on := 1, ground := Ground.phase }, { on := 2, ground := Ground.phase }, { on := 3, ground := Ground.phase }, { on := 4, ground := Ground.phase }, { on := 5, ground := Ground.phase }, { on := 6, ground := Ground.phase }, { on := 7, ground := Ground.phase }], guard := none }) (v := (.pointer (some ⟨zl, q * 8, none⟩))) rfl (by kernel_rfl) (by kernel_rfl) (by kernel_rfl) (fun _ _ _ h => h) (Or.inl ⟨by rfl, fun w' hS => by (try dsimp only at hS); go_simp⟩) H5.out ?_
    simp only [Act.put, List.setIfInBounds_toArray, List.set_cons_zero, List.set_cons_succ]
    refine wpAnyH_done (by kernel_rfl) ?_ _
    refine NoPanic.normal ?_
    clear PT P4
    go_upto_region 8 with fail
    replace HF : Hid (Row wd.drew w.heap.size 2 (fun i => if i = 0 then .int .i64 x else .int .i64 y)) := HF.out.blw (Blw.refl _).drew
    replace H5 : Hid (Row wd.drew zb 10 (hten G (upd c t q) V (.slice (some ⟨zl, 0, none⟩) kn kn))) := H5.out.blw (Blw.refl _).drew
    replace HL : Hid (Row wd.drew zl (kn * 8) (lc p m)) := HL.out.blw (Blw.refl _).drew
    replace HM : Hid (Mod (fun b => b = zb ∨ b = zl) w wd.drew) := HM.out.trans ((Blw.refl _).drew.mod _)
    have P0 : ∀ w', Row w' w.heap.size 2 (fun i => if i = 0 then .int .i64 x else .int .i64 y) → w'.cell? ⟨w.heap.size, 0, none⟩ = some (.int .i64 x) ∧ w'.cell? ⟨w.heap.size, 1, none⟩ = some (.int .i64 y) := fun w' hh => get2 hh
    have l0 := (lc_at HL.out hqk hr4).1
    have l1 := (lc_at HL.out hqk hr4).2
    have f0 := HL.out.frozen (q * 8 + j * 2)
    have f1 := HL.out.frozen (q * 8 + j * 2 + 1)
    refine wp_region_noPanic ?_
    refine wp_region_held_drew (S := fun w' => Row w' w.heap.size 2 (fun i => if i = 0 then .int .i64 x else .int .i64 y)) (by kernel_rfl) HF.out (fun hB => ?_)
    clear hB
    generalize wd.drew = wd at *
    refine wpAnyH_take (i := 0) (oi := { dst := some 41, op := Op.move (Operand.tmp 10), type := 216, pos := _, after := #[], guard := none }) (v := (.pointer (some ⟨zl, q * 8, none⟩))) rfl (by kernel_rfl) (by kernel_rfl) (by kernel_rfl) (fun _ _ _ h => h) (Or.inl ⟨by rfl, fun w' hS => by (try dsimp only at hS); go_simp⟩) HF.out ?_
    simp only [Act.put, List.setIfInBounds_toArray, List.set_cons_zero, List.set_cons_succ]
    refine wpAnyH_take (i := 1) (oi := { dst := some 42, op := Op.move (Operand.tmp 1), type := 3, pos := _, after := #[], guard := none }) (v := (.int .i64 a)) rfl (by kernel_rfl) (by kernel_rfl) (by kernel_rfl) (fun _ _ _ h => h) (Or.inl ⟨by rfl, fun w' hS => by (try dsimp only at hS); go_simp⟩) HF.out ?_
    simp only [Act.put, List.setIfInBounds_toArray, List.set_cons_zero, List.set_cons_succ]
    refine wpAnyH_take (i := 3) (oi := { dst := some 44, op := Op.load 144 (Operand.tmp 5), type := 144, pos := _, after := #[], guard := none }) (v := (.agg #[.int .i64 x, .int .i64 y])) rfl (by kernel_rfl) (by kernel_rfl) (by kernel_rfl) (fun _ _ _ h => h) (Or.inl ⟨by rfl, fun w' hS => by (try dsimp only at hS); go_simp⟩) HF.out ?_
    simp only [Act.put, List.setIfInBounds_toArray, List.set_cons_zero, List.set_cons_succ]
    refine wpAnyH_take (i := 2) (oi := { dst := some 43, op := Op.binOp BinOp.rem 3 (Operand.tmp 42) (Operand.const (Value.int IntKind.i64 4)) 3, type := 3, pos := _, after := #[{ on := 1, ground := Ground.data }], guard := none }) (v := (.int .i64 j)) rfl (by kernel_rfl) (by kernel_rfl) (by kernel_rfl) (fun _ _ _ h => h) (Or.inl ⟨by rfl, fun w' hS => by (try dsimp only at hS); go_simp⟩) HF.out ?_
    simp only [Act.put, List.setIfInBounds_toArray, List.set_cons_zero, List.set_cons_succ]
    refine wpAnyH_take (i := 4) (oi := { dst := some 45, op := Op.nilCheck (Operand.tmp 41), type := 0, pos := _, after := #[{ on := 0, ground := Ground.data }], guard := none }) (v := (.pointer (some ⟨zl, q * 8, none⟩))) rfl (by kernel_rfl) (by kernel_rfl) (by kernel_rfl) (fun _ _ _ h => h) (Or.inl ⟨by rfl, fun w' hS => by (try dsimp only at hS); go_simp⟩) HF.out ?_
    simp only [Act.put, List.setIfInBounds_toArray, List.set_cons_zero, List.set_cons_succ]
    refine wpAnyH_take (i := 5) (oi := { dst := some 46, op := Op.indexAddr 186 (Operand.tmp 45) (Operand.tmp 43), type := 0, pos := _, after := #[{ on := 4, ground := Ground.data }, { on := 2, ground := Ground.data }, { on := 0, ground := Ground.phase }, { on := 1, ground := Ground.phase }, { on := 2, ground := Ground.phase }, { on := 3, ground := Ground.phase }], guard := none }) (v := (.pointer (some ⟨zl, q * 8 + j * 2, none⟩))) rfl (by kernel_rfl) (by kernel_rfl) (by kernel_rfl) (fun _ _ _ h => h) (Or.inl ⟨by rfl, fun w' hS => by (try dsimp only at hS); go_simp⟩) HF.out ?_
    simp only [Act.put, List.setIfInBounds_toArray, List.set_cons_zero, List.set_cons_succ]
    refine wpAnyH_ready (rs := [6]) (by kernel_rfl) (by simp) ?_
    refine AllReadyH.cons (o := { dst := none, op := Op.store 144 (Operand.tmp 46) (Operand.tmp 44), type := 0, pos := _, after := #[{ on := 5, ground := Ground.data }, { on := 3, ground := Ground.data }, { on := 0, ground := Ground.phase }, { on := 1, ground := Ground.phase }, { on := 2, ground := Ground.phase }, { on := 3, ground := Ground.phase }], guard := none }) rfl (fun K hK => ?_) AllReadyH.nil
    go_simp
    refine hK.out _ _ ((HF.out.setOther (a := ⟨zl, q * 8 + j * 2, none⟩) (by show w.heap.size ≠ zl; omega) (.int .i64 x)).setOther (a := ⟨zl, q * 8 + j * 2 + 1, none⟩) (by show w.heap.size ≠ zl; omega) (.int .i64 y)) (fun hB => ?_)
    clear hK K hB
    try simp only [Act.put, List.setIfInBounds_toArray, List.set_cons_zero, List.set_cons_succ]
    refine wpAnyH_done (by kernel_rfl) ?_ _
    refine NoPanic.normal ?_
    have hm2 : Mod (fun b => b = zb ∨ b = zl) wd ((wd.setCell ⟨zl, q * 8 + j * 2, none⟩ (.int .i64 x)).setCell ⟨zl, q * 8 + j * 2 + 1, none⟩ (.int .i64 y)) := (Mod.setCell (X := fun b => b = zb ∨ b = zl) _ (p := ⟨zl, q * 8 + j * 2, none⟩) (Or.inr rfl) _).trans (Mod.setCell (X := fun b => b = zb ∨ b = zl) _ (p := ⟨zl, q * 8 + j * 2 + 1, none⟩) (Or.inr rfl) _)
    have HL2 : Hid (Row ((wd.setCell ⟨zl, q * 8 + j * 2, none⟩ (.int .i64 x)).setCell ⟨zl, q * 8 + j * 2 + 1, none⟩ (.int .i64 y)) zl (kn * 8) (lc (upd2 p q j x) (upd2 m q j y))) := lc_put HL.out hr4 x y
    have H52 : Hid (Row ((wd.setCell ⟨zl, q * 8 + j * 2, none⟩ (.int .i64 x)).setCell ⟨zl, q * 8 + j * 2 + 1, none⟩ (.int .i64 y)) zb 10 (hten G (upd c t q) V (.slice (some ⟨zl, 0, none⟩) kn kn))) := (H5.out.setOther (a := ⟨zl, q * 8 + j * 2, none⟩) hz _).setOther (a := ⟨zl, q * 8 + j * 2 + 1, none⟩) hz _
    have HM2 : Hid (Mod (fun b => b = zb ∨ b = zl) w ((wd.setCell ⟨zl, q * 8 + j * 2, none⟩ (.int .i64 x)).setCell ⟨zl, q * 8 + j * 2 + 1, none⟩ (.int .i64 y))) := HM.out.trans hm2
    clear hm2 HL H5 HM HF P0 l0 l1 f0 f1
    generalize ((wd.setCell ⟨zl, q * 8 + j * 2, none⟩ (.int .i64 x)).setCell ⟨zl, q * 8 + j * 2 + 1, none⟩ (.int .i64 y)) = W2 at *
    obtain ⟨p2, hp2⟩ : ∃ p2, p2 = upd2 p q j x := ⟨_, rfl⟩
    obtain ⟨m2, hm2⟩ : ∃ m2, m2 = upd2 m q j y := ⟨_, rfl⟩
    rw [← hp2, ← hm2] at HL2
    have HP : Hid (p2 = upd2 p q j x) := hp2
    have HQ : Hid (m2 = upd2 m q j y) := hm2
    clear hp2 hm2
    obtain ⟨q0, q1, q2, q3, q4, q5, q6, q7⟩ := lc8 HL2.out hqk
    have g1 : W2.cell? ⟨zb, 5 + t, none⟩ = some (.int .i64 q) := by rw [hten_top H52.out hd4, upd_at]
    have f1 := H52.out.frozen (5 + t)
    by_cases hzz : isZero8 (p2 q) (m2 q)
    · have hne := eql8_same (p2 q) (m2 q) hzz
      have HZZ : Hid (isZero8 (p2 q) (m2 q)) := hzz
      have H53 : Hid (Row (W2.setCell ⟨zb, 5 + t, none⟩ (.int .i64 (-1))) zb 10 (hten G (upd c t (-1)) V (.slice (some ⟨zl, 0, none⟩) kn kn))) := by have := hten_set H52.out hd4 (-1); rw [upd_upd] at this; exact this
      have HL3 : Hid (Row (W2.setCell ⟨zb, 5 + t, none⟩ (.int .i64 (-1))) zl (kn * 8) (lc p2 m2)) := HL2.out.setOther (a := ⟨zb, 5 + t, none⟩) (fun e => hz e.symm) _
      have HM3 : Hid (Mod (fun b => b = zb ∨ b = zl) w (W2.setCell ⟨zb, 5 + t, none⟩ (.int .i64 (-1)))) := HM2.out.trans (Mod.setCell (X := fun b => b = zb ∨ b = zl) _ (p := ⟨zb, 5 + t, none⟩) (Or.inl rfl) _)
      clear hzz HL2 H52 HM2
      go_wp2
      exact bodyPost_ret (v := .bool true) (by simp [results, Try.results168, go_sem]) rfl (Or.inl ⟨q, HGO.out, rfl, by rw [← HP.out, ← HQ.out, topsOf_yes HZZ.out]; exact H53.out, by rw [← HP.out, ← HQ.out]; exact HL3.out, HM3.out⟩)
    · have hne := eql8_other (p2 q) (m2 q) hzz
      have HZZ : Hid (¬ isZero8 (p2 q) (m2 q)) := hzz
      clear hzz
      go_wp2
      exact bodyPost_ret (v := .bool true) (by simp [results, Try.results168, go_sem]) rfl (Or.inl ⟨q, HGO.out, rfl, by rw [← HP.out, ← HQ.out, topsOf_no HZZ.out]; exact H52.out, by rw [← HP.out, ← HQ.out]; exact HL2.out, HM2.out⟩)
  · have hc : c t = -1 := by omega
    have g1 : (w.alloc (.cells #[.int .i64 x, .int .i64 y] 144)).cell? ⟨zb, 5 + t, none⟩ = some (.int .i64 (-1)) := by rw [hten_top H5.out hd4, hc]
    have HC : Hid (c t = -1) := hc
    obtain ⟨p0, p1, p2, p3, p4⟩ := get10h H5.out
    clear h0 htop hc
    go_wp2_with fail
    clear g1 p0 p1 p2 p3 p4
    refine (idle_any c zl kn _ hk).mono ?_
    rintro e w1 ⟨⟨q, ⟨hid, rfl⟩ | ⟨hno, rfl⟩⟩, hb1⟩
    · have hqk : q < kn := hid.1
      have HGO : Hid (goes c kn t q) := Or.inr ⟨HC.out, hid⟩
      replace HF : Hid (Row w1 w.heap.size 2 (fun i => if i = 0 then .int .i64 x else .int .i64 y)) := HF.out.blw hb1
      replace H5 : Hid (Row w1 zb 10 (hten G c V (.slice (some ⟨zl, 0, none⟩) kn kn))) := H5.out.blw hb1
      replace HL : Hid (Row w1 zl (kn * 8) (lc p m)) := HL.out.blw hb1
      replace HM : Hid (Mod (fun b => b = zb ∨ b = zl) w w1) := HM.out.trans (hb1.mod _)
      have g1 := hten_top H5.out hd4
      have f1 := H5.out.frozen (5 + t)
      replace H5 : Hid (Row (w1.setCell ⟨zb, 5 + t, none⟩ (.int .i64 q)) zb 10 (hten G (upd c t q) V (.slice (some ⟨zl, 0, none⟩) kn kn))) := hten_set H5.out hd4 q
      replace HL : Hid (Row (w1.setCell ⟨zb, 5 + t, none⟩ (.int .i64 q)) zl (kn * 8) (lc p m)) := HL.out.setOther (a := ⟨zb, 5 + t, none⟩) (fun e => hz e.symm) _
      replace HF : Hid (Row (w1.setCell ⟨zb, 5 + t, none⟩ (.int .i64 q)) w.heap.size 2 (fun i => if i = 0 then .int .i64 x else .int .i64 y)) := HF.out.setOther (a := ⟨zb, 5 + t, none⟩) (by show w.heap.size ≠ zb; omega) _
      replace HM : Hid (Mod (fun b => b = zb ∨ b = zl) w (w1.setCell ⟨zb, 5 + t, none⟩ (.int .i64 q))) := HM.out.trans (Mod.setCell (X := fun b => b = zb ∨ b = zl) _ (p := ⟨zb, 5 + t, none⟩) (Or.inl rfl) _)
      clear hid hb1 HC HA
      go_upto_region 7 with fail
      clear g1 f1
      generalize w1.setCell ⟨zb, 5 + t, none⟩ (.int .i64 q) = W at *
      have hqk' : (q : Int) < (kn : Int) := by omega
      have PT : ∀ w', Row w' zb 10 (hten G (upd c t q) V (.slice (some ⟨zl, 0, none⟩) kn kn)) → w'.cell? ⟨zb, 5 + t, none⟩ = some (.int .i64 q) := fun w' hh => by rw [hten_top hh hd4, upd_at]
      have P4 : ∀ w', Row w' zb 10 (hten G (upd c t q) V (.slice (some ⟨zl, 0, none⟩) kn kn)) → w'.cell? ⟨zb, 9, none⟩ = some (.slice (some ⟨zl, 0, none⟩) kn kn) := fun w' hh => (get10h hh).2.2.2.2
      replace HF : Hid (Row W.drew w.heap.size 2 (fun i => if i = 0 then .int .i64 x else .int .i64 y)) := HF.out.blw (Blw.refl _).drew
      replace H5 : Hid (Row W.drew zb 10 (hten G (upd c t q) V (.slice (some ⟨zl, 0, none⟩) kn kn))) := H5.out.blw (Blw.refl _).drew
      replace HL : Hid (Row W.drew zl (kn * 8) (lc p m)) := HL.out.blw (Blw.refl _).drew
      replace HM : Hid (Mod (fun b => b = zb ∨ b = zl) w W.drew) := HM.out.trans ((Blw.refl _).drew.mod _)
      refine wp_region_noPanic ?_
      refine wp_region_held_drew (S := fun w' => Row w' zb 10 (hten G (upd c t q) V (.slice (some ⟨zl, 0, none⟩) kn kn))) (by kernel_rfl) H5.out (fun hB => ?_)
      clear hB
      generalize W.drew = wd at *
      refine wpAnyH_take (i := 0) (oi := { dst := some 33, op := Op.move (Operand.tmp 0), type := 212, pos := _, after := #[], guard := none }) (v := (.pointer (some ⟨zb, 5, none⟩))) rfl (by kernel_rfl) (by kernel_rfl) (by kernel_rfl) (fun _ _ _ h => h) (Or.inl ⟨by rfl, fun w' hS => by (try dsimp only at hS); go_simp⟩) H5.out ?_
      simp only [Act.put, List.setIfInBounds_toArray, List.set_cons_zero, List.set_cons_succ]
      refine wpAnyH_take (i := 4) (oi := { dst := some 37, op := Op.move (Operand.tmp 7), type := 213, pos := _, after := #[], guard := none }) (v := (.pointer (some ⟨zb, 5 + t, none⟩))) rfl (by kernel_rfl) (by kernel_rfl) (by kernel_rfl) (fun _ _ _ h => h) (Or.inl ⟨by rfl, fun w' hS => by (try dsimp only at hS); go_simp⟩) H5.out ?_
      simp only [Act.put, List.setIfInBounds_toArray, List.set_cons_zero, List.set_cons_succ]
      refine wpAnyH_take (i := 1) (oi := { dst := some 34, op := Op.nilCheck (Operand.tmp 33), type := 0, pos := _, after := #[{ on := 0, ground := Ground.data }], guard := none }) (v := (.pointer (some ⟨zb, 5, none⟩))) rfl (by kernel_rfl) (by kernel_rfl) (by kernel_rfl) (fun _ _ _ h => h) (Or.inl ⟨by rfl, fun w' hS => by (try dsimp only at hS); go_simp⟩) H5.out ?_
      simp only [Act.put, List.setIfInBounds_toArray, List.set_cons_zero, List.set_cons_succ]
      refine wpAnyH_take (i := 5) (oi := { dst := some 38, op := Op.nilCheck (Operand.tmp 37), type := 0, pos := _, after := #[{ on := 4, ground := Ground.data }], guard := none }) (v := (.pointer (some ⟨zb, 5 + t, none⟩))) rfl (by kernel_rfl) (by kernel_rfl) (by kernel_rfl) (fun _ _ _ h => h) (Or.inl ⟨by rfl, fun w' hS => by (try dsimp only at hS); go_simp⟩) H5.out ?_
      simp only [Act.put, List.setIfInBounds_toArray, List.set_cons_zero, List.set_cons_succ]
      refine wpAnyH_take (i := 2) (oi := { dst := some 35, op := Op.fieldAddr 129 (Operand.tmp 34) 1, type := 0, pos := _, after := #[{ on := 1, ground := Ground.data }], guard := none }) (v := (.pointer (some ⟨zb, 9, none⟩))) rfl (by kernel_rfl) (by kernel_rfl) (by kernel_rfl) (fun _ _ _ h => h) (Or.inl ⟨by rfl, fun w' hS => by (try dsimp only at hS); go_simp⟩) H5.out ?_
      simp only [Act.put, List.setIfInBounds_toArray, List.set_cons_zero, List.set_cons_succ]
      refine wpAnyH_take (i := 6) (oi := { dst := some 39, op := Op.load 3 (Operand.tmp 38), type := 3, pos := _, after := #[{ on := 5, ground := Ground.data }], guard := none }) (v := (.int .i64 q)) rfl (by kernel_rfl) (by kernel_rfl) (by kernel_rfl) (fun _ _ _ h => h) (Or.inl ⟨by rfl, fun w' hS => by (try dsimp only at hS); go_simp⟩) H5.out ?_
      simp only [Act.put, List.setIfInBounds_toArray, List.set_cons_zero, List.set_cons_succ]
      refine wpAnyH_take (i := 3) (oi := { dst := some 36, op := Op.load 127 (Operand.tmp 35), type := 127, pos := _, after := #[{ on := 2, ground := Ground.data }], guard := none }) (v := (.slice (some ⟨zl, 0, none⟩) kn kn)) rfl (by kernel_rfl) (by kernel_rfl) (by kernel_rfl) (fun _ _ _ h => h) (Or.inl ⟨by rfl, fun w' hS => by (try dsimp only at hS); go_simp⟩) H5.out ?_
      simp only [Act.put, List.setIfInBounds_toArray, List.set_cons_zero, List.set_cons_succ]
      refine wpAnyH_take (i := 7) (oi := { dst := some 40, op := Op.indexAddr 127 (Operand.tmp 36) (Operand.tmp 39), type := 0, pos := _, after := #[{ on := 3, ground := Ground.data }, { on := 6, ground := Ground.data }], guard := none }) (v := (.pointer (some ⟨zl, q * 8, none⟩))) rfl (by kernel_rfl) (by kernel_rfl) (by kernel_rfl) (fun _ _ _ h => h) (Or.inl ⟨by rfl, fun w' hS => by (try dsimp only at hS); go_simp⟩) H5.out ?_
      simp only [Act.put, List.setIfInBounds_toArray, List.set_cons_zero, List.set_cons_succ]
      refine wpAnyH_take (i := 8) (oi := { dst := some 10, op := Op.assign (Operand.tmp 40), type := 216, pos := _, after := #[{ on := 7, ground := Ground.data }, { on := 0, ground := Ground.phase }, { on := 1, ground := Ground.phase }, { on := 2, ground := Ground.phase }, { on := 3, ground := Ground.phase }, { on := 4, ground := Ground.phase }, { on := 5, ground := Ground.phase }, { on := 6, ground := Ground.phase }, { on := 7, ground := Ground.phase }], guard := none }) (v := (.pointer (some ⟨zl, q * 8, none⟩))) rfl (by kernel_rfl) (by kernel_rfl) (by kernel_rfl) (fun _ _ _ h => h) (Or.inl ⟨by rfl, fun w' hS => by (try dsimp only at hS); go_simp⟩) H5.out ?_
      simp only [Act.put, List.setIfInBounds_toArray, List.set_cons_zero, List.set_cons_succ]
      refine wpAnyH_done (by kernel_rfl) ?_ _
      refine NoPanic.normal ?_
      clear PT P4
      go_upto_region 8 with fail
      replace HF : Hid (Row wd.drew w.heap.size 2 (fun i => if i = 0 then .int .i64 x else .int .i64 y)) := HF.out.blw (Blw.refl _).drew
      replace H5 : Hid (Row wd.drew zb 10 (hten G (upd c t q) V (.slice (some ⟨zl, 0, none⟩) kn kn))) := H5.out.blw (Blw.refl _).drew
      replace HL : Hid (Row wd.drew zl (kn * 8) (lc p m)) := HL.out.blw (Blw.refl _).drew
      replace HM : Hid (Mod (fun b => b = zb ∨ b = zl) w wd.drew) := HM.out.trans ((Blw.refl _).drew.mod _)
      have P0 : ∀ w', Row w' w.heap.size 2 (fun i => if i = 0 then .int .i64 x else .int .i64 y) → w'.cell? ⟨w.heap.size, 0, none⟩ = some (.int .i64 x) ∧ w'.cell? ⟨w.heap.size, 1, none⟩ = some (.int .i64 y) := fun w' hh => get2 hh
      have l0 := (lc_at HL.out hqk hr4).1
      have l1 := (lc_at HL.out hqk hr4).2
      have f0 := HL.out.frozen (q * 8 + j * 2)
      have f1 := HL.out.frozen (q * 8 + j * 2 + 1)
      refine wp_region_noPanic ?_
      refine wp_region_held_drew (S := fun w' => Row w' w.heap.size 2 (fun i => if i = 0 then .int .i64 x else .int .i64 y)) (by kernel_rfl) HF.out (fun hB => ?_)
      clear hB
      generalize wd.drew = wd at *
      refine wpAnyH_take (i := 0) (oi := { dst := some 41, op := Op.move (Operand.tmp 10), type := 216, pos := _, after := #[], guard := none }) (v := (.pointer (some ⟨zl, q * 8, none⟩))) rfl (by kernel_rfl) (by kernel_rfl) (by kernel_rfl) (fun _ _ _ h => h) (Or.inl ⟨by rfl, fun w' hS => by (try dsimp only at hS); go_simp⟩) HF.out ?_
      simp only [Act.put, List.setIfInBounds_toArray, List.set_cons_zero, List.set_cons_succ]
      refine wpAnyH_take (i := 1) (oi := { dst := some 42, op := Op.move (Operand.tmp 1), type := 3, pos := _, after := #[], guard := none }) (v := (.int .i64 a)) rfl (by kernel_rfl) (by kernel_rfl) (by kernel_rfl) (fun _ _ _ h => h) (Or.inl ⟨by rfl, fun w' hS => by (try dsimp only at hS); go_simp⟩) HF.out ?_
      simp only [Act.put, List.setIfInBounds_toArray, List.set_cons_zero, List.set_cons_succ]
      refine wpAnyH_take (i := 3) (oi := { dst := some 44, op := Op.load 144 (Operand.tmp 5), type := 144, pos := _, after := #[], guard := none }) (v := (.agg #[.int .i64 x, .int .i64 y])) rfl (by kernel_rfl) (by kernel_rfl) (by kernel_rfl) (fun _ _ _ h => h) (Or.inl ⟨by rfl, fun w' hS => by (try dsimp only at hS); go_simp⟩) HF.out ?_
      simp only [Act.put, List.setIfInBounds_toArray, List.set_cons_zero, List.set_cons_succ]
      refine wpAnyH_take (i := 2) (oi := { dst := some 43, op := Op.binOp BinOp.rem 3 (Operand.tmp 42) (Operand.const (Value.int IntKind.i64 4)) 3, type := 3, pos := _, after := #[{ on := 1, ground := Ground.data }], guard := none }) (v := (.int .i64 j)) rfl (by kernel_rfl) (by kernel_rfl) (by kernel_rfl) (fun _ _ _ h => h) (Or.inl ⟨by rfl, fun w' hS => by (try dsimp only at hS); go_simp⟩) HF.out ?_
      simp only [Act.put, List.setIfInBounds_toArray, List.set_cons_zero, List.set_cons_succ]
      refine wpAnyH_take (i := 4) (oi := { dst := some 45, op := Op.nilCheck (Operand.tmp 41), type := 0, pos := _, after := #[{ on := 0, ground := Ground.data }], guard := none }) (v := (.pointer (some ⟨zl, q * 8, none⟩))) rfl (by kernel_rfl) (by kernel_rfl) (by kernel_rfl) (fun _ _ _ h => h) (Or.inl ⟨by rfl, fun w' hS => by (try dsimp only at hS); go_simp⟩) HF.out ?_
      simp only [Act.put, List.setIfInBounds_toArray, List.set_cons_zero, List.set_cons_succ]
      refine wpAnyH_take (i := 5) (oi := { dst := some 46, op := Op.indexAddr 186 (Operand.tmp 45) (Operand.tmp 43), type := 0, pos := _, after := #[{ on := 4, ground := Ground.data }, { on := 2, ground := Ground.data }, { on := 0, ground := Ground.phase }, { on := 1, ground := Ground.phase }, { on := 2, ground := Ground.phase }, { on := 3, ground := Ground.phase }], guard := none }) (v := (.pointer (some ⟨zl, q * 8 + j * 2, none⟩))) rfl (by kernel_rfl) (by kernel_rfl) (by kernel_rfl) (fun _ _ _ h => h) (Or.inl ⟨by rfl, fun w' hS => by (try dsimp only at hS); go_simp⟩) HF.out ?_
      simp only [Act.put, List.setIfInBounds_toArray, List.set_cons_zero, List.set_cons_succ]
      refine wpAnyH_ready (rs := [6]) (by kernel_rfl) (by simp) ?_
      refine AllReadyH.cons (o := { dst := none, op := Op.store 144 (Operand.tmp 46) (Operand.tmp 44), type := 0, pos := _, after := #[{ on := 5, ground := Ground.data }, { on := 3, ground := Ground.data }, { on := 0, ground := Ground.phase }, { on := 1, ground := Ground.phase }, { on := 2, ground := Ground.phase }, { on := 3, ground := Ground.phase }], guard := none }) rfl (fun K hK => ?_) AllReadyH.nil
      go_simp
      refine hK.out _ _ ((HF.out.setOther (a := ⟨zl, q * 8 + j * 2, none⟩) (by show w.heap.size ≠ zl; omega) (.int .i64 x)).setOther (a := ⟨zl, q * 8 + j * 2 + 1, none⟩) (by show w.heap.size ≠ zl; omega) (.int .i64 y)) (fun hB => ?_)
      clear hK K hB
      try simp only [Act.put, List.setIfInBounds_toArray, List.set_cons_zero, List.set_cons_succ]
      refine wpAnyH_done (by kernel_rfl) ?_ _
      refine NoPanic.normal ?_
      have hm2 : Mod (fun b => b = zb ∨ b = zl) wd ((wd.setCell ⟨zl, q * 8 + j * 2, none⟩ (.int .i64 x)).setCell ⟨zl, q * 8 + j * 2 + 1, none⟩ (.int .i64 y)) := (Mod.setCell (X := fun b => b = zb ∨ b = zl) _ (p := ⟨zl, q * 8 + j * 2, none⟩) (Or.inr rfl) _).trans (Mod.setCell (X := fun b => b = zb ∨ b = zl) _ (p := ⟨zl, q * 8 + j * 2 + 1, none⟩) (Or.inr rfl) _)
      have HL2 : Hid (Row ((wd.setCell ⟨zl, q * 8 + j * 2, none⟩ (.int .i64 x)).setCell ⟨zl, q * 8 + j * 2 + 1, none⟩ (.int .i64 y)) zl (kn * 8) (lc (upd2 p q j x) (upd2 m q j y))) := lc_put HL.out hr4 x y
      have H52 : Hid (Row ((wd.setCell ⟨zl, q * 8 + j * 2, none⟩ (.int .i64 x)).setCell ⟨zl, q * 8 + j * 2 + 1, none⟩ (.int .i64 y)) zb 10 (hten G (upd c t q) V (.slice (some ⟨zl, 0, none⟩) kn kn))) := (H5.out.setOther (a := ⟨zl, q * 8 + j * 2, none⟩) hz _).setOther (a := ⟨zl, q * 8 + j * 2 + 1, none⟩) hz _
      have HM2 : Hid (Mod (fun b => b = zb ∨ b = zl) w ((wd.setCell ⟨zl, q * 8 + j * 2, none⟩ (.int .i64 x)).setCell ⟨zl, q * 8 + j * 2 + 1, none⟩ (.int .i64 y))) := HM.out.trans hm2
      clear hm2 HL H5 HM HF P0 l0 l1 f0 f1
      generalize ((wd.setCell ⟨zl, q * 8 + j * 2, none⟩ (.int .i64 x)).setCell ⟨zl, q * 8 + j * 2 + 1, none⟩ (.int .i64 y)) = W2 at *
      obtain ⟨p2, hp2⟩ : ∃ p2, p2 = upd2 p q j x := ⟨_, rfl⟩
      obtain ⟨m2, hm2⟩ : ∃ m2, m2 = upd2 m q j y := ⟨_, rfl⟩
      rw [← hp2, ← hm2] at HL2
      have HP : Hid (p2 = upd2 p q j x) := hp2
      have HQ : Hid (m2 = upd2 m q j y) := hm2
      clear hp2 hm2
      obtain ⟨q0, q1, q2, q3, q4, q5, q6, q7⟩ := lc8 HL2.out hqk
      have g1 : W2.cell? ⟨zb, 5 + t, none⟩ = some (.int .i64 q) := by rw [hten_top H52.out hd4, upd_at]
      have f1 := H52.out.frozen (5 + t)
      by_cases hzz : isZero8 (p2 q) (m2 q)
      · have hne := eql8_same (p2 q) (m2 q) hzz
        have HZZ : Hid (isZero8 (p2 q) (m2 q)) := hzz
        have H53 : Hid (Row (W2.setCell ⟨zb, 5 + t, none⟩ (.int .i64 (-1))) zb 10 (hten G (upd c t (-1)) V (.slice (some ⟨zl, 0, none⟩) kn kn))) := by have := hten_set H52.out hd4 (-1); rw [upd_upd] at this; exact this
        have HL3 : Hid (Row (W2.setCell ⟨zb, 5 + t, none⟩ (.int .i64 (-1))) zl (kn * 8) (lc p2 m2)) := HL2.out.setOther (a := ⟨zb, 5 + t, none⟩) (fun e => hz e.symm) _
        have HM3 : Hid (Mod (fun b => b = zb ∨ b = zl) w (W2.setCell ⟨zb, 5 + t, none⟩ (.int .i64 (-1)))) := HM2.out.trans (Mod.setCell (X := fun b => b = zb ∨ b = zl) _ (p := ⟨zb, 5 + t, none⟩) (Or.inl rfl) _)
        clear hzz HL2 H52 HM2
        go_wp2
        exact bodyPost_ret (v := .bool true) (by simp [results, Try.results168, go_sem]) rfl (Or.inl ⟨q, HGO.out, rfl, by rw [← HP.out, ← HQ.out, topsOf_yes HZZ.out]; exact H53.out, by rw [← HP.out, ← HQ.out]; exact HL3.out, HM3.out⟩)
      · have hne := eql8_other (p2 q) (m2 q) hzz
        have HZZ : Hid (¬ isZero8 (p2 q) (m2 q)) := hzz
        clear hzz
        go_wp2
        exact bodyPost_ret (v := .bool true) (by simp [results, Try.results168, go_sem]) rfl (Or.inl ⟨q, HGO.out, rfl, by rw [← HP.out, ← HQ.out, topsOf_no HZZ.out]; exact H52.out, by rw [← HP.out, ← HQ.out]; exact HL2.out, HM2.out⟩)
    · have HN : Hid (¬ ∃ q, goes c kn t q) := fun ⟨q, g⟩ => by
        rcases g with g | ⟨-, g⟩
        · have := HC.out; omega
        · exact hno ⟨q, g⟩
      have HBB : Hid (Blw w w1) := HA.out.trans hb1
      clear hno hb1 HC
      go_wp2
      exact bodyPost_ret (v := .bool false) (by simp [results, Try.results168, go_sem]) rfl (Or.inr ⟨HN.out, rfl, HBB.out⟩)
end Go.Proofs.Ytjplodenflkghaa
/- Nests: the host's leaf set, by the program; both sides' WatchWrites and LetWrite. -/
namespace Go.Proofs.Ytjplodenflkghaa
open Go.RowKit
set_option linter.unusedSimpArgs false
set_option linter.unusedVariables false
theorem box_hh (w : World) (c d : Nat → Int) (z1 z2 : Nat) : Row (w.alloc (.cells (held10 c d z1 4 z2 4) 138)) w.heap.size 10 (hten c d (.slice (some ⟨z1, 0, none⟩) 4 4) (.slice (some ⟨z2, 0, none⟩) 4 4)) := box10 w _ _ _ _ _ _ _ _ _ _ 138
set_option maxRecDepth 10000 in
set_option maxHeartbeats 3200000 in
theorem giveOutN_any (c d : Nat → Int) (z1 z2 : Nat) (p m p' m' : Nat → Nat → Int) (w : World) (h1 : Row w z1 (4 * 8) (lc p m)) (h2 : Row w z2 (4 * 8) (lc p' m')) :
    Calls Try.prog 177 #[.agg (held10 c d z1 4 z2 4)] w fun e w' => ∃ v : NV, e = .returned (v.val ⟨⟨4, c, ⟨4, fun _ => 4, p, m⟩⟩, ⟨4, d, ⟨4, fun _ => 4, p', m'⟩⟩⟩) ∧ NOwn (fun x => w.heap.size ≤ x ∧ x < w'.heap.size) w' v ⟨⟨4, c, ⟨4, fun _ => 4, p, m⟩⟩, ⟨4, d, ⟨4, fun _ => 4, p', m'⟩⟩⟩ ∧ Blw w w' := by
  have hA1 : Blw w (w.alloc (.cells (held10 c d z1 4 z2 4) 138)) := (Blw.refl _).alloc _
  have hA2 : Blw (w.alloc (.cells (held10 c d z1 4 z2 4) 138)) ((w.alloc (.cells (held10 c d z1 4 z2 4) 138)).alloc (.cells #[.slice none 0 0, .slice none 0 0, .slice none 0 0, .slice none 0 0] 60)) := (Blw.refl _).alloc _
  have rz := box4 (w.alloc (.cells (held10 c d z1 4 z2 4) 138)) (.slice none 0 0) (.slice none 0 0) (.slice none 0 0) (.slice none 0 0) 60
  rw [World.size_alloc] at rz
  have HZ : Hid (Row ((w.alloc (.cells (held10 c d z1 4 z2 4) 138)).alloc (.cells #[.slice none 0 0, .slice none 0 0, .slice none 0 0, .slice none 0 0] 60)).drew (w.heap.size + 1) 4 (fun i => if i = 0 then .slice none 0 0 else if i = 1 then .slice none 0 0 else if i = 2 then .slice none 0 0 else .slice none 0 0)) := rz.blw (Blw.refl _).drew
  have HR : Hid (Row ((w.alloc (.cells (held10 c d z1 4 z2 4) 138)).alloc (.cells #[.slice none 0 0, .slice none 0 0, .slice none 0 0, .slice none 0 0] 60)).drew w.heap.size 10 (hten c d (.slice (some ⟨z1, 0, none⟩) 4 4) (.slice (some ⟨z2, 0, none⟩) 4 4))) := ((box_hh w c d z1 z2).blw hA2).blw (Blw.refl _).drew
  have HG : Hid (Row ((w.alloc (.cells (held10 c d z1 4 z2 4) 138)).alloc (.cells #[.slice none 0 0, .slice none 0 0, .slice none 0 0, .slice none 0 0] 60)).drew z1 (4 * 8) (lc p m)) := (h1.blw (hA1.trans hA2)).blw (Blw.refl _).drew
  have HH : Hid (Row ((w.alloc (.cells (held10 c d z1 4 z2 4) 138)).alloc (.cells #[.slice none 0 0, .slice none 0 0, .slice none 0 0, .slice none 0 0] 60)).drew z2 (4 * 8) (lc p' m')) := (h2.blw (hA1.trans hA2)).blw (Blw.refl _).drew
  have HB : Hid (Blw w ((w.alloc (.cells (held10 c d z1 4 z2 4) 138)).alloc (.cells #[.slice none 0 0, .slice none 0 0, .slice none 0 0, .slice none 0 0] 60)).drew) := (hA1.trans hA2).drew
  have HSZ : Hid (w.heap.size + 1 + 1 = ((w.alloc (.cells (held10 c d z1 4 z2 4) 138)).alloc (.cells #[.slice none 0 0, .slice none 0 0, .slice none 0 0, .slice none 0 0] 60)).drew.heap.size) := by show _ = _; simp
  clear hA1 hA2 rz h1 h2
  go_enter Try.func177, Try.ntmps177
  go_upto_region 1 with fail
  generalize ((w.alloc (.cells (held10 c d z1 4 z2 4) 138)).alloc (.cells #[.slice none 0 0, .slice none 0 0, .slice none 0 0, .slice none 0 0] 60)) = W4 at *
  have P0 : ∀ w', (Row w' w.heap.size 10 (hten c d (.slice (some ⟨z1, 0, none⟩) 4 4) (.slice (some ⟨z2, 0, none⟩) 4 4))) → w'.cell? ⟨w.heap.size, 0, none⟩ = some (.int .i64 (c 0)) ∧ w'.cell? ⟨w.heap.size, 1, none⟩ = some (.int .i64 (c 1)) ∧ w'.cell? ⟨w.heap.size, 2, none⟩ = some (.int .i64 (c 2)) ∧ w'.cell? ⟨w.heap.size, 3, none⟩ = some (.int .i64 (c 3)) ∧ w'.cell? ⟨w.heap.size, 4, none⟩ = some ((.slice (some ⟨z1, 0, none⟩) 4 4)) ∧ w'.cell? ⟨w.heap.size, 5, none⟩ = some (.int .i64 (d 0)) ∧ w'.cell? ⟨w.heap.size, 6, none⟩ = some (.int .i64 (d 1)) ∧ w'.cell? ⟨w.heap.size, 7, none⟩ = some (.int .i64 (d 2)) ∧ w'.cell? ⟨w.heap.size, 8, none⟩ = some (.int .i64 (d 3)) ∧ w'.cell? ⟨w.heap.size, 9, none⟩ = some ((.slice (some ⟨z2, 0, none⟩) 4 4)) := fun w' hh => get10 hh
  refine wp_region_noPanic ?_
  refine wp_region_held_drew (S := (fun w' => Row w' w.heap.size 10 (hten c d (.slice (some ⟨z1, 0, none⟩) 4 4) (.slice (some ⟨z2, 0, none⟩) 4 4)))) (by kernel_rfl) HR.out (fun hB => ?_)
  clear hB
  generalize W4.drew = wd at *
  refine wpAnyH_take (i := 0) (oi := { dst := some 3, op := Op.fieldAddr 138 (Operand.tmp 1) 0, type := 0, pos := _, after := #[], guard := none }) (v := (.pointer (some ⟨w.heap.size, 0, none⟩))) rfl (by kernel_rfl) (by kernel_rfl) (by kernel_rfl) (fun _ _ _ h => h) (Or.inl ⟨by rfl, fun w' hS => by (try dsimp only at hS); go_simp⟩) HR.out ?_
  simp only [Act.put, List.setIfInBounds_toArray, List.set_cons_zero, List.set_cons_succ]
  refine wpAnyH_take (i := 4) (oi := { dst := some 7, op := Op.fieldAddr 138 (Operand.tmp 1) 1, type := 0, pos := _, after := #[], guard := none }) (v := (.pointer (some ⟨w.heap.size, 5, none⟩))) rfl (by kernel_rfl) (by kernel_rfl) (by kernel_rfl) (fun _ _ _ h => h) (Or.inl ⟨by rfl, fun w' hS => by (try dsimp only at hS); go_simp⟩) HR.out ?_
  simp only [Act.put, List.setIfInBounds_toArray, List.set_cons_zero, List.set_cons_succ]
  refine wpAnyH_take (i := 1) (oi := { dst := some 4, op := Op.fieldAddr 135 (Operand.tmp 3) 0, type := 0, pos := _, after := #[{ on := 0, ground := Ground.data }], guard := none }) (v := (.pointer (some ⟨w.heap.size, 0, none⟩))) rfl (by kernel_rfl) (by kernel_rfl) (by kernel_rfl) (fun _ _ _ h => h) (Or.inl ⟨by rfl, fun w' hS => by (try dsimp only at hS); go_simp⟩) HR.out ?_
  simp only [Act.put, List.setIfInBounds_toArray, List.set_cons_zero, List.set_cons_succ]
  refine wpAnyH_take (i := 5) (oi := { dst := some 8, op := Op.fieldAddr 136 (Operand.tmp 7) 0, type := 0, pos := _, after := #[{ on := 4, ground := Ground.data }], guard := none }) (v := (.pointer (some ⟨w.heap.size, 5, none⟩))) rfl (by kernel_rfl) (by kernel_rfl) (by kernel_rfl) (fun _ _ _ h => h) (Or.inl ⟨by rfl, fun w' hS => by (try dsimp only at hS); go_simp⟩) HR.out ?_
  simp only [Act.put, List.setIfInBounds_toArray, List.set_cons_zero, List.set_cons_succ]
  refine wpAnyH_take (i := 2) (oi := { dst := some 5, op := Op.load 129 (Operand.tmp 4), type := 129, pos := _, after := #[{ on := 1, ground := Ground.data }], guard := none }) (v := (.agg (held5 c z1 4))) rfl (by kernel_rfl) (by kernel_rfl) (by kernel_rfl) (fun _ _ _ h => h) (Or.inl ⟨by rfl, fun w' hS => by (try dsimp only at hS); go_simp⟩) HR.out ?_
  simp only [Act.put, List.setIfInBounds_toArray, List.set_cons_zero, List.set_cons_succ]
  refine wpAnyH_take (i := 6) (oi := { dst := some 9, op := Op.load 129 (Operand.tmp 8), type := 129, pos := _, after := #[{ on := 5, ground := Ground.data }], guard := none }) (v := (.agg (held5 d z2 4))) rfl (by kernel_rfl) (by kernel_rfl) (by kernel_rfl) (fun _ _ _ h => h) (Or.inl ⟨by rfl, fun w' hS => by (try dsimp only at hS); go_simp⟩) HR.out ?_
  simp only [Act.put, List.setIfInBounds_toArray, List.set_cons_zero, List.set_cons_succ]
  refine wpAnyH_ready (rs := [3]) (by kernel_rfl) (by simp) ?_
  refine AllReadyH.cons (o := { dst := some 6, op := Op.call { callee := Callee.value (Operand.func 113), args := #[Operand.tmp 5], argTypes := #[129] }, type := 29, pos := _, after := #[{ on := 2, ground := Ground.data }], guard := none }) rfl (fun K hK => ?_) AllReadyH.nil
  go_simp
  refine (giveOut_any c z1 4 p m _ (by omega) HG.out).mono ?_
  rintro e w2 ⟨g1, rfl, own1, hb1⟩
  have HR1 : Hid (Row w2 w.heap.size 10 (hten c d (.slice (some ⟨z1, 0, none⟩) 4 4) (.slice (some ⟨z2, 0, none⟩) 4 4))) := HR.out.blw hb1
  have HH1 : Hid (Row w2 z2 (4 * 8) (lc p' m')) := HH.out.blw hb1
  have HZ1 : Hid (Row w2 (w.heap.size + 1) 4 (fun i => if i = 0 then .slice none 0 0 else if i = 1 then .slice none 0 0 else if i = 2 then .slice none 0 0 else .slice none 0 0)) := HZ.out.blw hb1
  have HB1 : Hid (Blw w w2) := HB.out.trans hb1
  have hs1 := hb1.size
  have HOW1 : Hid (BookOwn (fun x => w.heap.size + 1 + 1 ≤ x ∧ x < w2.heap.size) w2 g1 ⟨4, c, ⟨4, fun _ => 4, p, m⟩⟩) := own1.mono (fun x hx => by have := HSZ.out; omega)
  have HS1 : Hid (w.heap.size + 1 + 1 ≤ w2.heap.size) := by have := HSZ.out; show _ ≤ _; omega
  clear own1 hb1 hs1
  refine hK.out _ _ HR1.out (fun hB => ?_)
  clear hK K hB
  try simp only [Act.put, List.setIfInBounds_toArray, List.set_cons_zero, List.set_cons_succ]
  refine wpAnyH_ready (rs := [7]) (by kernel_rfl) (by simp) ?_
  refine AllReadyH.cons (o := { dst := some 10, op := Op.call { callee := Callee.value (Operand.func 113), args := #[Operand.tmp 9], argTypes := #[129] }, type := 29, pos := _, after := #[{ on := 6, ground := Ground.data }, { on := 3, ground := Ground.chain }], guard := none }) rfl (fun K hK => ?_) AllReadyH.nil
  go_simp
  refine (giveOut_any d z2 4 p' m' _ (by omega) HH1.out).mono ?_
  rintro e w3 ⟨g2, rfl, own2, hb2⟩
  have HR2 : Hid (Row w3 w.heap.size 10 (hten c d (.slice (some ⟨z1, 0, none⟩) 4 4) (.slice (some ⟨z2, 0, none⟩) 4 4))) := HR1.out.blw hb2
  have HZ2 : Hid (Row w3 (w.heap.size + 1) 4 (fun i => if i = 0 then .slice none 0 0 else if i = 1 then .slice none 0 0 else if i = 2 then .slice none 0 0 else .slice none 0 0)) := HZ1.out.blw hb2
  have HB2 : Hid (Blw w w3) := HB1.out.trans hb2
  have hs2 := hb2.size
  have HOW : Hid (NOwn (fun x => w.heap.size + 1 + 1 ≤ x ∧ x < w3.heap.size) w3 ⟨g1, g2⟩ ⟨⟨4, c, ⟨4, fun _ => 4, p, m⟩⟩, ⟨4, d, ⟨4, fun _ => 4, p', m'⟩⟩⟩) := by
    have hh1 := HS1.out
    exact ⟨fun x => w.heap.size + 1 + 1 ≤ x ∧ x < w2.heap.size, fun x => w2.heap.size ≤ x ∧ x < w3.heap.size, fun x hx => ⟨⟨by omega, by omega⟩, by omega⟩, fun x hx => ⟨by omega, by omega⟩, HOW1.out.blw hb2, own2⟩
  clear own2 hb2 hs2
  refine hK.out _ _ HR2.out (fun hB => ?_)
  clear hK K hB
  try simp only [Act.put, List.setIfInBounds_toArray, List.set_cons_zero, List.set_cons_succ]
  refine wpAnyH_take (i := 8) (oi := { dst := some 11, op := Op.build 60 #[(0, Operand.tmp 6), (1, Operand.tmp 10)], type := 60, pos := _, after := #[{ on := 3, ground := Ground.data }, { on := 7, ground := Ground.data }], guard := none }) (v := (.agg #[.slice g1.a1 4 g1.c1, .slice g1.a2 4 g1.c2, .slice g2.a1 4 g2.c1, .slice g2.a2 4 g2.c2])) rfl (by kernel_rfl) (by kernel_rfl) (by kernel_rfl) (fun _ _ _ h => h) (Or.inl ⟨by rfl, fun w' hS => by (try dsimp only at hS); go_simp⟩) HR2.out ?_
  simp only [Act.put, List.setIfInBounds_toArray, List.set_cons_zero, List.set_cons_succ]
  refine wpAnyH_ready (rs := [9]) (by kernel_rfl) (by simp) ?_
  refine AllReadyH.cons (o := { dst := none, op := Op.store 60 (Operand.tmp 2) (Operand.tmp 11), type := 0, pos := _, after := #[{ on := 8, ground := Ground.data }, { on := 7, ground := Ground.chain }, { on := 0, ground := Ground.phase }, { on := 1, ground := Ground.phase }, { on := 2, ground := Ground.phase }, { on := 3, ground := Ground.phase }, { on := 4, ground := Ground.phase }, { on := 5, ground := Ground.phase }, { on := 6, ground := Ground.phase }, { on := 7, ground := Ground.phase }, { on := 8, ground := Ground.phase }], guard := none }) rfl (fun K hK => ?_) AllReadyH.nil
  obtain ⟨t0, t1, t2, t3⟩ := get4 HZ2.out
  have f0 := HZ2.out.frozen 0; have f1 := HZ2.out.frozen 1; have f2 := HZ2.out.frozen 2; have f3 := HZ2.out.frozen 3
  go_simp
  have hm4 := set4_mod w3 (w.heap.size + 1) (.slice g1.a1 4 g1.c1) (.slice g1.a2 4 g1.c2) (.slice g2.a1 4 g2.c1) (.slice g2.a2 4 g2.c2)
  refine hK.out _ _ (HR2.out.mod hm4 (by omega)) (fun hB => ?_)
  clear hK K hB
  try simp only [Act.put, List.setIfInBounds_toArray, List.set_cons_zero, List.set_cons_succ]
  refine wpAnyH_done (by kernel_rfl) ?_ _
  refine NoPanic.normal ?_
  have FIN : Hid _ := (⟨⟨g1, g2⟩, rfl, (HOW.out.mod hm4 (fun x hx e => by omega)).mono (fun x hx => by have := hm4.size; omega), set4_blw HB2.out (by omega) _ _ _ _⟩ : ∃ v : NV, Ending.returned (Value.agg #[.slice g1.a1 4 g1.c1, .slice g1.a2 4 g1.c2, .slice g2.a1 4 g2.c1, .slice g2.a2 4 g2.c2]) = .returned (v.val ⟨⟨4, c, ⟨4, fun _ => 4, p, m⟩⟩, ⟨4, d, ⟨4, fun _ => 4, p', m'⟩⟩⟩) ∧ NOwn (fun x => w.heap.size ≤ x ∧ x < (set4 w3 (w.heap.size + 1) (.slice g1.a1 4 g1.c1) (.slice g1.a2 4 g1.c2) (.slice g2.a1 4 g2.c1) (.slice g2.a2 4 g2.c2)).heap.size) (set4 w3 (w.heap.size + 1) (.slice g1.a1 4 g1.c1) (.slice g1.a2 4 g1.c2) (.slice g2.a1 4 g2.c1) (.slice g2.a2 4 g2.c2)) v ⟨⟨4, c, ⟨4, fun _ => 4, p, m⟩⟩, ⟨4, d, ⟨4, fun _ => 4, p', m'⟩⟩⟩ ∧ Blw w (set4 w3 (w.heap.size + 1) (.slice g1.a1 4 g1.c1) (.slice g1.a2 4 g1.c2) (.slice g2.a1 4 g2.c1) (.slice g2.a2 4 g2.c2)))
  clear P0 HR HR1 HR2 HH HH1 HZ HZ1 HZ2 HB HB1 HB2 HOW HOW1 HG hm4
  go_wp2
  exact bodyPost_ret (v := .agg #[.slice g1.a1 4 g1.c1, .slice g1.a2 4 g1.c2, .slice g2.a1 4 g2.c1, .slice g2.a2 4 g2.c2]) (by simp [results, Try.results177, go_sem, t0, t1, t2, t3]) rfl FIN.out
set_option maxRecDepth 10000 in
set_option maxHeartbeats 3200000 in
theorem protectH_any (G : Nat → Int) (V : Value) (c : Nat → Int) (zl : Nat) (p m : Nat → Nat → Int) (zb a : Nat) (old y : Int) (w : World) (ht : ∀ i, i < 4 → -1 ≤ c i ∧ c i ≤ ((4 : Nat) : Int) - 1) (ha : a < 16) (hz : zb ≠ zl) (h5 : Row w zb 10 (hten G c V (.slice (some ⟨zl, 0, none⟩) 4 4))) (hl : Row w zl (4 * 8) (lc p m)) :
    Calls Try.prog 176 #[.pointer (some ⟨zb, 5, none⟩), .int .i64 a, .int .i64 old, .int .i64 y] w fun e w' => ((lfP c m a = old ∧ ∃ q : Nat, goes c 4 (a / 4) q ∧ e = .returned (.bool true) ∧ Row w' zb 10 (hten G (topsOf c (a / 4) q (upd2 p q (a % 4) (lfP c p a) q) (upd2 m q (a % 4) y q)) V (.slice (some ⟨zl, 0, none⟩) 4 4)) ∧ Row w' zl (4 * 8) (lc (upd2 p q (a % 4) (lfP c p a)) (upd2 m q (a % 4) y)) ∧ Mod (fun b => b = zb ∨ b = zl) w w') ∨
      (¬ lfP c m a = old ∧ e = .returned (.bool false) ∧ Blw w w')) := by
  have H5 : Hid (Row w zb 10 (hten G c V (.slice (some ⟨zl, 0, none⟩) 4 4))) := h5
  have HL : Hid (Row w zl (4 * 8) (lc p m)) := hl
  have HT : Hid (∀ i, i < 4 → -1 ≤ c i ∧ c i ≤ ((4 : Nat) : Int) - 1) := ht
  clear h5 hl ht
  go_enter Try.func176, Try.ntmps176
  obtain ⟨p0, p1, p2, p3, p4⟩ := get10h H5.out
  go_wp2_with fail
  clear p0 p1 p2 p3 p4
  refine (leafAt_any c zl 4 p m a _ (by omega) HT.out ha HL.out).mono ?_
  rintro e w1 ⟨rfl, hb1⟩
  have hA : Blw w1 (w1.alloc (.cells #[.int .i64 (lfP c p a), .int .i64 (lfP c m a)] 144)) := (Blw.refl _).alloc _
  have HLF : Hid (Row (w1.alloc (.cells #[.int .i64 (lfP c p a), .int .i64 (lfP c m a)] 144)) w1.heap.size 2 (fun i => if i = 0 then .int .i64 (lfP c p a) else .int .i64 (lfP c m a))) := box2 w1 _ _ 144
  have HSZB : Hid (zb < w1.heap.size ∧ zl < w1.heap.size) := ⟨(H5.out.blw hb1).lt, (HL.out.blw hb1).lt⟩
  replace H5 : Hid (Row (w1.alloc (.cells #[.int .i64 (lfP c p a), .int .i64 (lfP c m a)] 144)) zb 10 (hten G c V (.slice (some ⟨zl, 0, none⟩) 4 4))) := (H5.out.blw hb1).blw hA
  replace HL : Hid (Row (w1.alloc (.cells #[.int .i64 (lfP c p a), .int .i64 (lfP c m a)] 144)) zl (4 * 8) (lc p m)) := (HL.out.blw hb1).blw hA
  have HB : Hid (Blw w (w1.alloc (.cells #[.int .i64 (lfP c p a), .int .i64 (lfP c m a)] 144))) := hb1.trans hA
  clear hb1 hA
  have HNE : Hid (w1.heap.size ≠ zb ∧ w1.heap.size ≠ zl) := by
    have e1 := HSZB.out
    exact ⟨by omega, by omega⟩
  go_upto_region 2 with fail
  generalize (w1.alloc (.cells #[.int .i64 (lfP c p a), .int .i64 (lfP c m a)] 144)) = w2 at *
  generalize w1.heap.size = zf at *
  obtain ⟨l0, l1⟩ := get2 HLF.out
  by_cases hd : lfP c m a = old
  case neg =>
    have e1 : (lfP c m a != old) = true := by simp; exact hd
    have HD : Hid (¬ lfP c m a = old) := hd
    clear hd HL H5 HLF
    go_wp2
    exact bodyPost_ret (v := .bool false) (by simp [results, Try.results176, go_sem]) rfl (Or.inr ⟨HD.out, rfl, HB.out⟩)
  have e1 : (lfP c m a != old) = false := by simp; exact hd
  have HD : Hid (lfP c m a = old) := hd
  clear hd
  go_upto_region 4 with fail
  clear l0 l1 e1
  replace HLF : Hid (Row w2.drew zf 2 (fun i => if i = 0 then .int .i64 (lfP c p a) else .int .i64 (lfP c m a))) := HLF.out.blw (Blw.refl _).drew
  replace H5 : Hid (Row w2.drew zb 10 (hten G c V (.slice (some ⟨zl, 0, none⟩) 4 4))) := H5.out.blw (Blw.refl _).drew
  replace HL : Hid (Row w2.drew zl (4 * 8) (lc p m)) := HL.out.blw (Blw.refl _).drew
  replace HB : Hid (Blw w w2.drew) := HB.out.drew
  have P0 : ∀ w', (Row w' zf 2 (fun i => if i = 0 then .int .i64 (lfP c p a) else .int .i64 (lfP c m a))) → w'.cell? ⟨zf, 0, none⟩ = some (.int .i64 (lfP c p a)) ∧ w'.cell? ⟨zf, 1, none⟩ = some (.int .i64 (lfP c m a)) := fun w' hh => get2 hh
  have HGO : Hid (∃ q, goes c 4 (a / 4) q) := goes4 (by omega) (by have := HT.out (a / 4) (by omega); omega)
  refine wp_region_noPanic ?_
  refine wp_region_held_drew (S := (fun w' => Row w' zf 2 (fun i => if i = 0 then .int .i64 (lfP c p a) else .int .i64 (lfP c m a)))) (by kernel_rfl) HLF.out (fun hB => ?_)
  clear hB
  generalize w2.drew = wd at *
  refine wpAnyH_take (i := 0) (oi := { dst := some 20, op := Op.move (Operand.tmp 0), type := 217, pos := _, after := #[], guard := none }) (v := (.pointer (some ⟨zb, 5, none⟩))) rfl (by kernel_rfl) (by kernel_rfl) (by kernel_rfl) (fun _ _ _ h => h) (Or.inl ⟨by rfl, fun w' hS => by (try dsimp only at hS); go_simp⟩) HLF.out ?_
  simp only [Act.put, List.setIfInBounds_toArray, List.set_cons_zero, List.set_cons_succ]
  refine wpAnyH_take (i := 3) (oi := { dst := some 23, op := Op.move (Operand.tmp 1), type := 3, pos := _, after := #[], guard := none }) (v := (.int .i64 a)) rfl (by kernel_rfl) (by kernel_rfl) (by kernel_rfl) (fun _ _ _ h => h) (Or.inl ⟨by rfl, fun w' hS => by (try dsimp only at hS); go_simp⟩) HLF.out ?_
  simp only [Act.put, List.setIfInBounds_toArray, List.set_cons_zero, List.set_cons_succ]
  refine wpAnyH_take (i := 4) (oi := { dst := some 24, op := Op.fieldAddr 144 (Operand.tmp 9) 0, type := 0, pos := _, after := #[], guard := none }) (v := (.pointer (some ⟨zf, 0, none⟩))) rfl (by kernel_rfl) (by kernel_rfl) (by kernel_rfl) (fun _ _ _ h => h) (Or.inl ⟨by rfl, fun w' hS => by (try dsimp only at hS); go_simp⟩) HLF.out ?_
  simp only [Act.put, List.setIfInBounds_toArray, List.set_cons_zero, List.set_cons_succ]
  refine wpAnyH_take (i := 6) (oi := { dst := some 26, op := Op.move (Operand.tmp 3), type := 3, pos := _, after := #[], guard := none }) (v := (.int .i64 y)) rfl (by kernel_rfl) (by kernel_rfl) (by kernel_rfl) (fun _ _ _ h => h) (Or.inl ⟨by rfl, fun w' hS => by (try dsimp only at hS); go_simp⟩) HLF.out ?_
  simp only [Act.put, List.setIfInBounds_toArray, List.set_cons_zero, List.set_cons_succ]
  refine wpAnyH_take (i := 1) (oi := { dst := some 21, op := Op.nilCheck (Operand.tmp 20), type := 0, pos := _, after := #[{ on := 0, ground := Ground.data }], guard := none }) (v := (.pointer (some ⟨zb, 5, none⟩))) rfl (by kernel_rfl) (by kernel_rfl) (by kernel_rfl) (fun _ _ _ h => h) (Or.inl ⟨by rfl, fun w' hS => by (try dsimp only at hS); go_simp⟩) HLF.out ?_
  simp only [Act.put, List.setIfInBounds_toArray, List.set_cons_zero, List.set_cons_succ]
  refine wpAnyH_take (i := 5) (oi := { dst := some 25, op := Op.load 3 (Operand.tmp 24), type := 3, pos := _, after := #[{ on := 4, ground := Ground.data }], guard := none }) (v := (.int .i64 (lfP c p a))) rfl (by kernel_rfl) (by kernel_rfl) (by kernel_rfl) (fun _ _ _ h => h) (Or.inl ⟨by rfl, fun w' hS => by (try dsimp only at hS); go_simp⟩) HLF.out ?_
  simp only [Act.put, List.setIfInBounds_toArray, List.set_cons_zero, List.set_cons_succ]
  refine wpAnyH_take (i := 2) (oi := { dst := some 22, op := Op.fieldAddr 136 (Operand.tmp 21) 0, type := 0, pos := _, after := #[{ on := 1, ground := Ground.data }], guard := none }) (v := (.pointer (some ⟨zb, 5, none⟩))) rfl (by kernel_rfl) (by kernel_rfl) (by kernel_rfl) (fun _ _ _ h => h) (Or.inl ⟨by rfl, fun w' hS => by (try dsimp only at hS); go_simp⟩) HLF.out ?_
  simp only [Act.put, List.setIfInBounds_toArray, List.set_cons_zero, List.set_cons_succ]
  refine wpAnyH_take (i := 7) (oi := { dst := some 27, op := Op.build 144 #[(0, Operand.tmp 25), (1, Operand.tmp 26)], type := 144, pos := _, after := #[{ on := 5, ground := Ground.data }, { on := 6, ground := Ground.data }], guard := none }) (v := (.agg #[.int .i64 (lfP c p a), .int .i64 y])) rfl (by kernel_rfl) (by kernel_rfl) (by kernel_rfl) (fun _ _ _ h => h) (Or.inl ⟨by rfl, fun w' hS => by (try dsimp only at hS); go_simp⟩) HLF.out ?_
  simp only [Act.put, List.setIfInBounds_toArray, List.set_cons_zero, List.set_cons_succ]
  refine wpAnyH_ready (rs := [8]) (by kernel_rfl) (by simp) ?_
  refine AllReadyH.cons (o := { dst := some 28, op := Op.call { callee := Callee.value (Operand.func 168), args := #[Operand.tmp 22, Operand.tmp 23, Operand.tmp 27], argTypes := #[129, 3, 144] }, type := 4, pos := _, after := #[{ on := 2, ground := Ground.data }, { on := 3, ground := Ground.data }, { on := 7, ground := Ground.data }], guard := none }) rfl (fun K hK => ?_) AllReadyH.nil
  have HLQ := HLF.out
  go_simp
  refine (putH_any G V c zl 4 p m zb a (lfP c p a) y _ (by omega) HT.out ha hz H5.out HL.out).mono ?_
  rintro e w3 ho
  have HO : Hid (∃ q : Nat, goes c 4 (a / 4) q ∧ e = .returned (.bool true) ∧ Row w3 zb 10 (hten G (topsOf c (a / 4) q (upd2 p q (a % 4) (lfP c p a) q) (upd2 m q (a % 4) y q)) V (.slice (some ⟨zl, 0, none⟩) 4 4)) ∧ Row w3 zl (4 * 8) (lc (upd2 p q (a % 4) (lfP c p a)) (upd2 m q (a % 4) y)) ∧ Mod (fun b => b = zb ∨ b = zl) wd w3) := by
    rcases ho with ho | ⟨hn, _⟩
    · exact ho
    · exact absurd HGO.out hn
  clear ho
  obtain ⟨q, hq, rfl, r1, r2, hm⟩ := HO.out
  have FIN : Hid (∃ q : Nat, goes c 4 (a / 4) q ∧ Row w3 zb 10 (hten G (topsOf c (a / 4) q (upd2 p q (a % 4) (lfP c p a) q) (upd2 m q (a % 4) y q)) V (.slice (some ⟨zl, 0, none⟩) 4 4)) ∧ Row w3 zl (4 * 8) (lc (upd2 p q (a % 4) (lfP c p a)) (upd2 m q (a % 4) y)) ∧ Mod (fun b => b = zb ∨ b = zl) w w3) := ⟨q, hq, r1, r2, (HB.out.mod _).trans hm⟩
  have HLF3 : Hid (Row w3 zf 2 (fun i => if i = 0 then .int .i64 (lfP c p a) else .int .i64 (lfP c m a))) := HLQ.mod hm (by have := HNE.out; omega)
  clear HO hq r1 r2 hm HLQ
  refine hK.out _ _ (HLF3.out) (fun hB => ?_)
  clear hK K hB
  try simp only [Act.put, List.setIfInBounds_toArray, List.set_cons_zero, List.set_cons_succ]
  refine wpAnyH_take (i := 9) (oi := { dst := some 8, op := Op.assign (Operand.tmp 28), type := 4, pos := _, after := #[{ on := 8, ground := Ground.data }, { on := 8, ground := Ground.chain }, { on := 0, ground := Ground.phase }, { on := 1, ground := Ground.phase }, { on := 2, ground := Ground.phase }, { on := 3, ground := Ground.phase }, { on := 4, ground := Ground.phase }, { on := 5, ground := Ground.phase }, { on := 6, ground := Ground.phase }, { on := 7, ground := Ground.phase }, { on := 8, ground := Ground.phase }], guard := none }) (v := (.bool true)) rfl (by kernel_rfl) (by kernel_rfl) (by kernel_rfl) (fun _ _ _ h => h) (Or.inl ⟨by rfl, fun w' hS => by (try dsimp only at hS); go_simp⟩) (HLF3.out) ?_
  simp only [Act.put, List.setIfInBounds_toArray, List.set_cons_zero, List.set_cons_succ]
  refine wpAnyH_done (by kernel_rfl) ?_ _
  refine NoPanic.normal ?_
  clear HLF HLF3 H5 HL HB HGO P0
  go_wp2
  exact bodyPost_ret (v := .bool true) (by simp [results, Try.results176, go_sem]) rfl (by obtain ⟨q, hq, r1, r2, hm⟩ := FIN.out; exact Or.inl ⟨HD.out, q, hq, rfl, r1, r2, hm⟩)
end Go.Proofs.Ytjplodenflkghaa
