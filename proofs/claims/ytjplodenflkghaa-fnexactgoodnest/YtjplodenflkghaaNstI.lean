/- Nests: the program's held ones, and its walks. -/
import Derived.Test.YtjplodenflkghaaNstG
namespace Go.Proofs.Ytjplodenflkghaa
open Go.RowKit
set_option linter.unusedSimpArgs false
set_option linter.unusedVariables false
abbrev held10 (c d : Nat → Int) (z1 k1 z2 k2 : Nat) : Array Value := #[.int .i64 (c 0), .int .i64 (c 1), .int .i64 (c 2), .int .i64 (c 3), .slice (some ⟨z1, 0, none⟩) k1 k1, .int .i64 (d 0), .int .i64 (d 1), .int .i64 (d 2), .int .i64 (d 3), .slice (some ⟨z2, 0, none⟩) k2 k2]
abbrev zero10 : Array Value := #[.int .i64 0, .int .i64 0, .int .i64 0, .int .i64 0, .slice none 0 0, .int .i64 0, .int .i64 0, .int .i64 0, .int .i64 0, .slice none 0 0]
def ten (a b c d e f g h i j : Value) : Nat → Value
  | 0 => a
  | 1 => b
  | 2 => c
  | 3 => d
  | 4 => e
  | 5 => f
  | 6 => g
  | 7 => h
  | 8 => i
  | _ => j
theorem box10 (w : World) (a b c d e f g h i j : Value) (t : TypeId) : Row (w.alloc (.cells #[a, b, c, d, e, f, g, h, i, j] t)) w.heap.size 10 (ten a b c d e f g h i j) :=
  ⟨_, t, heap_alloc_new _ _, by simp, fun k hk => by
    match k, hk with
    | 0, _ => rfl
    | 1, _ => rfl
    | 2, _ => rfl
    | 3, _ => rfl
    | 4, _ => rfl
    | 5, _ => rfl
    | 6, _ => rfl
    | 7, _ => rfl
    | 8, _ => rfl
    | 9, _ => rfl⟩
theorem get10 {w : World} {B : Nat} {a b c d e f g h i j : Value} (r : Row w B 10 (ten a b c d e f g h i j)) : w.cell? ⟨B, 0, none⟩ = some a ∧ w.cell? ⟨B, 1, none⟩ = some b ∧ w.cell? ⟨B, 2, none⟩ = some c ∧ w.cell? ⟨B, 3, none⟩ = some d ∧ w.cell? ⟨B, 4, none⟩ = some e ∧ w.cell? ⟨B, 5, none⟩ = some f ∧ w.cell? ⟨B, 6, none⟩ = some g ∧ w.cell? ⟨B, 7, none⟩ = some h ∧ w.cell? ⟨B, 8, none⟩ = some i ∧ w.cell? ⟨B, 9, none⟩ = some j :=
  ⟨r.cell (i := 0) (by omega), r.cell (i := 1) (by omega), r.cell (i := 2) (by omega), r.cell (i := 3) (by omega), r.cell (i := 4) (by omega), r.cell (i := 5) (by omega), r.cell (i := 6) (by omega), r.cell (i := 7) (by omega), r.cell (i := 8) (by omega), r.cell (i := 9) (by omega)⟩
abbrev hten (c d : Nat → Int) (v u : Value) : Nat → Value := ten (.int .i64 (c 0)) (.int .i64 (c 1)) (.int .i64 (c 2)) (.int .i64 (c 3)) v (.int .i64 (d 0)) (.int .i64 (d 1)) (.int .i64 (d 2)) (.int .i64 (d 3)) u
abbrev zten : Nat → Value := ten (.int .i64 0) (.int .i64 0) (.int .i64 0) (.int .i64 0) (.slice none 0 0) (.int .i64 0) (.int .i64 0) (.int .i64 0) (.int .i64 0) (.slice none 0 0)
/-- All ten cells of a box are stored. -/
abbrev set10 (W : World) (z : Nat) (a b c d e f g h i j : Value) : World := ((((((((((W.setCell ⟨z, 0, none⟩ a).setCell ⟨z, 1, none⟩ b).setCell ⟨z, 2, none⟩ c).setCell ⟨z, 3, none⟩ d).setCell ⟨z, 4, none⟩ e).setCell ⟨z, 5, none⟩ f).setCell ⟨z, 6, none⟩ g).setCell ⟨z, 7, none⟩ h).setCell ⟨z, 8, none⟩ i).setCell ⟨z, 9, none⟩ j)
theorem set10_mod (W : World) (z : Nat) (a b c d e f g h i j : Value) : Mod (fun x => x = z) W (set10 W z a b c d e f g h i j) :=
  (((((((((Mod.setCell (X := fun x => x = z) _ (p := ⟨z, 0, none⟩) rfl _).trans (Mod.setCell (X := fun x => x = z) _ (p := ⟨z, 1, none⟩) rfl _)).trans (Mod.setCell (X := fun x => x = z) _ (p := ⟨z, 2, none⟩) rfl _)).trans (Mod.setCell (X := fun x => x = z) _ (p := ⟨z, 3, none⟩) rfl _)).trans (Mod.setCell (X := fun x => x = z) _ (p := ⟨z, 4, none⟩) rfl _)).trans (Mod.setCell (X := fun x => x = z) _ (p := ⟨z, 5, none⟩) rfl _)).trans (Mod.setCell (X := fun x => x = z) _ (p := ⟨z, 6, none⟩) rfl _)).trans (Mod.setCell (X := fun x => x = z) _ (p := ⟨z, 7, none⟩) rfl _)).trans (Mod.setCell (X := fun x => x = z) _ (p := ⟨z, 8, none⟩) rfl _)).trans (Mod.setCell (X := fun x => x = z) _ (p := ⟨z, 9, none⟩) rfl _)
theorem set5_mod (W : World) (z : Nat) (v0 v1 v2 v3 v4 : Value) : Mod (fun x => x = z) W (((((W.setCell ⟨z, 0, none⟩ v0).setCell ⟨z, 1, none⟩ v1).setCell ⟨z, 2, none⟩ v2).setCell ⟨z, 3, none⟩ v3).setCell ⟨z, 4, none⟩ v4) :=
  ((((Mod.setCell (X := fun x => x = z) _ (p := ⟨z, 0, none⟩) rfl _).trans (Mod.setCell (X := fun x => x = z) _ (p := ⟨z, 1, none⟩) rfl _)).trans (Mod.setCell (X := fun x => x = z) _ (p := ⟨z, 2, none⟩) rfl _)).trans (Mod.setCell (X := fun x => x = z) _ (p := ⟨z, 3, none⟩) rfl _)).trans (Mod.setCell (X := fun x => x = z) _ (p := ⟨z, 4, none⟩) rfl _)
theorem set10_blw {w W : World} {z : Nat} (h' : Blw w W) (hz : w.heap.size ≤ z) (a b c d e f g h i j : Value) : Blw w (set10 W z a b c d e f g h i j) :=
  Mod.blw h' (set10_mod W z a b c d e f g h i j) (fun k hk => by omega)
/-- A good table with a list for each top. -/
def Wide (B : BD) : Prop := B.Good ∧ B.D.n = 4
set_option maxRecDepth 10000 in
set_option maxHeartbeats 800000 in
theorem holdWide_any (b : BV) (B : BD) (Y : Nat → Prop) (w : World) (h : BookAt Y w b B) (hY : ∀ x, Y x → x < w.heap.size) :
    Calls Try.prog 163 #[b.val B] w fun e w' => ((∃ zl, Wide B ∧ e = .returned (.tuple #[.agg (held5 B.c zl 4), .bool true]) ∧ Row w' zl (4 * 8) (lc B.D.p B.D.m) ∧ w.heap.size ≤ zl) ∨ (¬ Wide B ∧ e = .returned (.tuple #[.agg zero5, .bool false]))) ∧ Blw w w' := by
  have hb0 : Blw w ((w.alloc (.cells #[.slice b.a1 B.n b.c1, .slice b.a2 B.D.n b.c2] 29)).alloc (.cells zero5 129)) := ((Blw.refl _).alloc _).alloc _
  have HA : Hid (BookAt Y ((w.alloc (.cells #[.slice b.a1 B.n b.c1, .slice b.a2 B.D.n b.c2] 29)).alloc (.cells zero5 129)) b B) := h.blw hb0
  have r1 := (box2 w (.slice b.a1 B.n b.c1) (.slice b.a2 B.D.n b.c2) 29).blw (w' := ((w.alloc (.cells #[.slice b.a1 B.n b.c1, .slice b.a2 B.D.n b.c2] 29)).alloc (.cells zero5 129))) ((Blw.refl _).alloc _)
  have rz := zrow5 (w.alloc (.cells #[.slice b.a1 B.n b.c1, .slice b.a2 B.D.n b.c2] 29)) (.slice none 0 0) 129
  rw [World.size_alloc] at rz
  have HZ : Hid (Row ((w.alloc (.cells #[.slice b.a1 B.n b.c1, .slice b.a2 B.D.n b.c2] 29)).alloc (.cells zero5 129)) (w.heap.size + 1) 5 (zrow (.slice none 0 0))) := rz
  have HB : Hid (Blw w ((w.alloc (.cells #[.slice b.a1 B.n b.c1, .slice b.a2 B.D.n b.c2] 29)).alloc (.cells zero5 129))) := hb0
  have HSZ : Hid (((w.alloc (.cells #[.slice b.a1 B.n b.c1, .slice b.a2 B.D.n b.c2] 29)).alloc (.cells zero5 129)).heap.size = w.heap.size + 1 + 1) := by show _ = _; simp
  have HYY : Hid (∀ x, Y x → x < ((w.alloc (.cells #[.slice b.a1 B.n b.c1, .slice b.a2 B.D.n b.c2] 29)).alloc (.cells zero5 129)).heap.size) := fun x hx => by have := hY x hx; simp; omega
  clear h hb0 rz hY
  go_enter Try.func163, Try.ntmps163
  obtain ⟨p0, p1⟩ := get2 r1
  clear r1
  go_wp2_with fail
  clear p0 p1
  generalize ((w.alloc (.cells #[.slice b.a1 B.n b.c1, .slice b.a2 B.D.n b.c2] 29)).alloc (.cells zero5 129)) = w0 at *
  refine (hold_any b B Y _ HA.out HYY.out).mono ?_
  rintro e w1 ⟨h1, hb1⟩
  have HLO : Hid (w.heap.size + 1 + 1 ≤ w1.heap.size) := by have h2 := hb1.size; have h3 := HSZ.out; show _ ≤ _; omega
  rcases h1 with ⟨z, hg, rfl, hrow, hlo⟩ | ⟨hg, rfl⟩
  case inr =>
    have hA : Blw w1 (w1.alloc (.cells zero5 129)) := (Blw.refl _).alloc _
    replace HZ : Hid (Row (w1.alloc (.cells zero5 129)) (w.heap.size + 1) 5 (zrow (.slice none 0 0))) := (HZ.out.blw hb1).blw hA
    replace HB : Hid (Blw w (w1.alloc (.cells zero5 129))) := (HB.out.trans hb1).trans hA
    have HG : Hid (¬ B.Good) := hg
    clear hA hb1 hg HA HYY HSZ
    go_upto_region 2 with fail
    generalize (w1.alloc (.cells zero5 129)) = w2 at *
    obtain ⟨t0, t1, t2, t3, t4⟩ := zget HZ.out
    have f0 := HZ.out.frozen 0; have f1 := HZ.out.frozen 1; have f2 := HZ.out.frozen 2; have f3 := HZ.out.frozen 3; have f4 := HZ.out.frozen 4
    clear HZ
    go_wp2
    refine bodyPost_ret (v := .tuple #[.agg zero5, .bool false]) (by simp [results, Try.results163, go_sem, t0, t1, t2, t3, t4]) rfl ?_
    exact ⟨Or.inr ⟨fun q => HG.out q.1, rfl⟩, set5_blw HB.out (by omega) _ _ _ _ _⟩
  have hA : Blw w1 (w1.alloc (.cells (held5 B.c z B.D.n) 129)) := (Blw.refl _).alloc _
  have HR5 : Hid (Row (w1.alloc (.cells (held5 B.c z B.D.n) 129)) w1.heap.size 5 (row5f B.c (.slice (some ⟨z, 0, none⟩) B.D.n B.D.n))) := row5 w1 (.int .i64 (B.c 0)) (.int .i64 (B.c 1)) (.int .i64 (B.c 2)) (.int .i64 (B.c 3)) (.slice (some ⟨z, 0, none⟩) B.D.n B.D.n) 129
  have HRL : Hid (Row (w1.alloc (.cells (held5 B.c z B.D.n) 129)) z (B.D.n * 8) (lc B.D.p B.D.m)) := hrow.blw hA
  replace HZ : Hid (Row (w1.alloc (.cells (held5 B.c z B.D.n) 129)) (w.heap.size + 1) 5 (zrow (.slice none 0 0))) := (HZ.out.blw hb1).blw hA
  replace HB : Hid (Blw w (w1.alloc (.cells (held5 B.c z B.D.n) 129))) := (HB.out.trans hb1).trans hA
  have HG : Hid B.Good := hg
  have HZL : Hid (w.heap.size + 1 + 1 ≤ z) := by have h3 := HSZ.out; show _ ≤ _; omega
  clear hA hb1 hg HA HYY HSZ hrow hlo
  go_upto_region 2 with fail
  generalize (w1.alloc (.cells (held5 B.c z B.D.n) 129)) = w2 at *
  generalize w1.heap.size = z5 at *
  obtain ⟨t0, t1, t2, t3, t4⟩ := zget HZ.out
  have f0 := HZ.out.frozen 0; have f1 := HZ.out.frozen 1; have f2 := HZ.out.frozen 2; have f3 := HZ.out.frozen 3; have f4 := HZ.out.frozen 4
  obtain ⟨s0, s1, s2, s3, s4⟩ := get5 HR5.out
  clear HZ HR5
  by_cases d1 : B.D.n = 4
  case neg =>
    have HNG : Hid (¬ Wide B) := fun q => d1 q.2
    have e1 : (((B.D.n : Nat) : Int) != 4) = true := by simp; omega
    clear d1
    go_wp2
    refine bodyPost_ret (v := .tuple #[.agg zero5, .bool false]) (by simp [results, Try.results163, go_sem, t0, t1, t2, t3, t4]) rfl ?_
    exact ⟨Or.inr ⟨HNG.out, rfl⟩, set5_blw HB.out (by omega) _ _ _ _ _⟩
  rw [d1] at s4
  have HW : Hid (Wide B) := ⟨HG.out, d1⟩
  have HRL4 : Hid (Row w2 z (4 * 8) (lc B.D.p B.D.m)) := by have h9 := HRL.out; rw [d1] at h9; exact h9
  clear d1 HRL
  go_wp2
  refine bodyPost_ret (v := .tuple #[.agg (held5 B.c z 4), .bool true]) (by simp [results, Try.results163, go_sem, t0, t1, t2, t3, t4]) rfl ?_
  have hz := HZL.out
  exact ⟨Or.inl ⟨z, HW.out, rfl, HRL4.out.mod (set5_mod _ (w.heap.size + 1) _ _ _ _ _) (by omega), by omega⟩, set5_blw HB.out (by omega) _ _ _ _ _⟩
set_option maxRecDepth 10000 in
set_option maxHeartbeats 1600000 in
theorem holdNest_any (v : NV) (D : ND) (Y : Nat → Prop) (w : World) (h : NAt Y w v D) (hY : ∀ x, Y x → x < w.heap.size) :
    Calls Try.prog 111 #[v.val D] w fun e w' => ((∃ z1 z2, D.Good ∧ e = .returned (.tuple #[.agg (held10 D.G.c D.H.c z1 4 z2 4), .bool true]) ∧ Row w' z1 (4 * 8) (lc D.G.D.p D.G.D.m) ∧ Row w' z2 (4 * 8) (lc D.H.D.p D.H.D.m) ∧ w.heap.size ≤ z1 ∧ z1 < z2) ∨ (¬ D.Good ∧ e = .returned (.tuple #[.agg zero10, .bool false]))) ∧ Blw w w' := by
  have hb0 : Blw w ((w.alloc (.cells #[.slice v.g.a1 D.G.n v.g.c1, .slice v.g.a2 D.G.D.n v.g.c2, .slice v.h.a1 D.H.n v.h.c1, .slice v.h.a2 D.H.D.n v.h.c2] 60)).alloc (.cells zero10 138)) := ((Blw.refl _).alloc _).alloc _
  have HA : Hid (NAt Y ((w.alloc (.cells #[.slice v.g.a1 D.G.n v.g.c1, .slice v.g.a2 D.G.D.n v.g.c2, .slice v.h.a1 D.H.n v.h.c1, .slice v.h.a2 D.H.D.n v.h.c2] 60)).alloc (.cells zero10 138)) v D) := h.blw hb0
  have HR : Hid (Row ((w.alloc (.cells #[.slice v.g.a1 D.G.n v.g.c1, .slice v.g.a2 D.G.D.n v.g.c2, .slice v.h.a1 D.H.n v.h.c1, .slice v.h.a2 D.H.D.n v.h.c2] 60)).alloc (.cells zero10 138)) w.heap.size 4 (nb v D)) := (box4 w _ _ _ _ 60).blw ((Blw.refl _).alloc _)
  have rz := box10 (w.alloc (.cells #[.slice v.g.a1 D.G.n v.g.c1, .slice v.g.a2 D.G.D.n v.g.c2, .slice v.h.a1 D.H.n v.h.c1, .slice v.h.a2 D.H.D.n v.h.c2] 60)) (.int .i64 0) (.int .i64 0) (.int .i64 0) (.int .i64 0) (.slice none 0 0) (.int .i64 0) (.int .i64 0) (.int .i64 0) (.int .i64 0) (.slice none 0 0) 138
  rw [World.size_alloc] at rz
  have HZ : Hid (Row ((w.alloc (.cells #[.slice v.g.a1 D.G.n v.g.c1, .slice v.g.a2 D.G.D.n v.g.c2, .slice v.h.a1 D.H.n v.h.c1, .slice v.h.a2 D.H.D.n v.h.c2] 60)).alloc (.cells zero10 138)) (w.heap.size + 1) 10 zten) := rz
  have HB : Hid (Blw w ((w.alloc (.cells #[.slice v.g.a1 D.G.n v.g.c1, .slice v.g.a2 D.G.D.n v.g.c2, .slice v.h.a1 D.H.n v.h.c1, .slice v.h.a2 D.H.D.n v.h.c2] 60)).alloc (.cells zero10 138))) := hb0
  have HSZ : Hid (((w.alloc (.cells #[.slice v.g.a1 D.G.n v.g.c1, .slice v.g.a2 D.G.D.n v.g.c2, .slice v.h.a1 D.H.n v.h.c1, .slice v.h.a2 D.H.D.n v.h.c2] 60)).alloc (.cells zero10 138)).heap.size = w.heap.size + 1 + 1) := by show _ = _; simp
  have HYY : Hid (∀ x, Y x → x < ((w.alloc (.cells #[.slice v.g.a1 D.G.n v.g.c1, .slice v.g.a2 D.G.D.n v.g.c2, .slice v.h.a1 D.H.n v.h.c1, .slice v.h.a2 D.H.D.n v.h.c2] 60)).alloc (.cells zero10 138)).heap.size) := fun x hx => by have := hY x hx; simp; omega
  clear h hb0 rz hY
  go_enter Try.func111, Try.ntmps111
  obtain ⟨p0, p1, p2, p3⟩ := get4 HR.out
  go_wp2_with fail
  clear p0 p1 p2 p3
  generalize ((w.alloc (.cells #[.slice v.g.a1 D.G.n v.g.c1, .slice v.g.a2 D.G.D.n v.g.c2, .slice v.h.a1 D.H.n v.h.c1, .slice v.h.a2 D.H.D.n v.h.c2] 60)).alloc (.cells zero10 138)) = w0 at *
  refine (holdWide_any v.g D.G Y _ HA.out.g HYY.out).mono ?_
  rintro e w1 ⟨h1, hb1⟩
  have hs1 := hb1.size
  have HYY1 : Hid (∀ x, Y x → x < w1.heap.size) := fun x hx => Nat.lt_of_lt_of_le (HYY.out x hx) hs1
  have HS1 : Hid (w.heap.size + 1 + 1 ≤ w1.heap.size) := by have h3 := HSZ.out; show _ ≤ _; omega
  rcases h1 with ⟨z1, hg, rfl, hrow, hlo⟩ | ⟨hg, rfl⟩
  case inr =>
    have hA : Blw w1 (w1.alloc (.cells zero5 129)) := (Blw.refl _).alloc _
    replace HZ : Hid (Row (w1.alloc (.cells zero5 129)) (w.heap.size + 1) 10 zten) := (HZ.out.blw hb1).blw hA
    replace HB : Hid (Blw w (w1.alloc (.cells zero5 129))) := (HB.out.trans hb1).trans hA
    have HG : Hid (¬ D.Good) := fun q => hg ⟨q.g, q.ng⟩
    clear hA hb1 hg HA HYY HSZ HYY1 hs1 HR
    go_upto_region 2 with fail
    generalize (w1.alloc (.cells zero5 129)) = w2 at *
    obtain ⟨t0, t1, t2, t3, t4, t5, t6, t7, t8, t9⟩ := get10 HZ.out
    have f0 := HZ.out.frozen 0; have f1 := HZ.out.frozen 1; have f2 := HZ.out.frozen 2; have f3 := HZ.out.frozen 3; have f4 := HZ.out.frozen 4; have f5 := HZ.out.frozen 5; have f6 := HZ.out.frozen 6; have f7 := HZ.out.frozen 7; have f8 := HZ.out.frozen 8; have f9 := HZ.out.frozen 9
    clear HZ
    go_wp2
    refine bodyPost_ret (v := .tuple #[.agg zero10, .bool false]) (by simp [results, Try.results111, go_sem, t0, t1, t2, t3, t4, t5, t6, t7, t8, t9]) rfl ?_
    exact ⟨Or.inr ⟨HG.out, rfl⟩, set10_blw HB.out (by omega) _ _ _ _ _ _ _ _ _ _⟩
  have hA : Blw w1 (w1.alloc (.cells (held5 D.G.c z1 4) 129)) := (Blw.refl _).alloc _
  have HG5 : Hid (Row (w1.alloc (.cells (held5 D.G.c z1 4) 129)) w1.heap.size 5 (row5f D.G.c (.slice (some ⟨z1, 0, none⟩) 4 4))) := row5 w1 (.int .i64 (D.G.c 0)) (.int .i64 (D.G.c 1)) (.int .i64 (D.G.c 2)) (.int .i64 (D.G.c 3)) (.slice (some ⟨z1, 0, none⟩) 4 4) 129
  have HGL : Hid (Row (w1.alloc (.cells (held5 D.G.c z1 4) 129)) z1 (4 * 8) (lc D.G.D.p D.G.D.m)) := hrow.blw hA
  replace HZ : Hid (Row (w1.alloc (.cells (held5 D.G.c z1 4) 129)) (w.heap.size + 1) 10 zten) := (HZ.out.blw hb1).blw hA
  replace HR : Hid (Row (w1.alloc (.cells (held5 D.G.c z1 4) 129)) w.heap.size 4 (nb v D)) := (HR.out.blw hb1).blw hA
  replace HA : Hid (NAt Y (w1.alloc (.cells (held5 D.G.c z1 4) 129)) v D) := (HA.out.blw hb1).blw hA
  replace HB : Hid (Blw w (w1.alloc (.cells (held5 D.G.c z1 4) 129))) := (HB.out.trans hb1).trans hA
  replace HYY : Hid (∀ x, Y x → x < (w1.alloc (.cells (held5 D.G.c z1 4) 129)).heap.size) := fun x hx => by have := HYY1.out x hx; simp; omega
  have HG : Hid (Wide D.G) := hg
  have HZL : Hid (w.heap.size + 1 + 1 ≤ z1) := by have h3 := HSZ.out; show _ ≤ _; omega
  have HZ5 : Hid (w.heap.size + 1 + 1 ≤ w1.heap.size ∧ w1.heap.size < (w1.alloc (.cells (held5 D.G.c z1 4) 129)).heap.size) := ⟨HS1.out, by simp⟩
  clear hA hb1 hg HSZ hrow hlo HYY1 hs1 HS1
  go_upto_region 2 with fail
  generalize (w1.alloc (.cells (held5 D.G.c z1 4) 129)) = w2 at *
  generalize w1.heap.size = y5 at *
  obtain ⟨p0, p1, p2, p3⟩ := get4 HR.out
  go_wp2_with fail
  clear p0 p1 p2 p3
  refine (holdWide_any v.h D.H Y _ HA.out.h HYY.out).mono ?_
  rintro e w3 ⟨h1, hb1⟩
  rcases h1 with ⟨z2, hg, rfl, hrow, hlo⟩ | ⟨hg, rfl⟩
  case inr =>
    have hA : Blw w3 (w3.alloc (.cells zero5 129)) := (Blw.refl _).alloc _
    replace HZ : Hid (Row (w3.alloc (.cells zero5 129)) (w.heap.size + 1) 10 zten) := (HZ.out.blw hb1).blw hA
    replace HB : Hid (Blw w (w3.alloc (.cells zero5 129))) := (HB.out.trans hb1).trans hA
    have HNG : Hid (¬ D.Good) := fun q => hg ⟨q.h, q.nh⟩
    clear hA hb1 hg HA HYY HR HG HGL HG5
    go_upto_region 5 with fail
    generalize (w3.alloc (.cells zero5 129)) = w4 at *
    obtain ⟨t0, t1, t2, t3, t4, t5, t6, t7, t8, t9⟩ := get10 HZ.out
    have f0 := HZ.out.frozen 0; have f1 := HZ.out.frozen 1; have f2 := HZ.out.frozen 2; have f3 := HZ.out.frozen 3; have f4 := HZ.out.frozen 4; have f5 := HZ.out.frozen 5; have f6 := HZ.out.frozen 6; have f7 := HZ.out.frozen 7; have f8 := HZ.out.frozen 8; have f9 := HZ.out.frozen 9
    clear HZ
    go_wp2
    refine bodyPost_ret (v := .tuple #[.agg zero10, .bool false]) (by simp [results, Try.results111, go_sem, t0, t1, t2, t3, t4, t5, t6, t7, t8, t9]) rfl ?_
    exact ⟨Or.inr ⟨HNG.out, rfl⟩, set10_blw HB.out (by omega) _ _ _ _ _ _ _ _ _ _⟩
  have hA : Blw w3 (w3.alloc (.cells (held5 D.H.c z2 4) 129)) := (Blw.refl _).alloc _
  have HH5 : Hid (Row (w3.alloc (.cells (held5 D.H.c z2 4) 129)) w3.heap.size 5 (row5f D.H.c (.slice (some ⟨z2, 0, none⟩) 4 4))) := row5 w3 (.int .i64 (D.H.c 0)) (.int .i64 (D.H.c 1)) (.int .i64 (D.H.c 2)) (.int .i64 (D.H.c 3)) (.slice (some ⟨z2, 0, none⟩) 4 4) 129
  have HHL : Hid (Row (w3.alloc (.cells (held5 D.H.c z2 4) 129)) z2 (4 * 8) (lc D.H.D.p D.H.D.m)) := hrow.blw hA
  have HZ12 : Hid (z1 < z2) := by have := HGL.out.lt; show _ < _; omega
  replace HZ : Hid (Row (w3.alloc (.cells (held5 D.H.c z2 4) 129)) (w.heap.size + 1) 10 zten) := (HZ.out.blw hb1).blw hA
  replace HG5 : Hid (Row (w3.alloc (.cells (held5 D.H.c z2 4) 129)) y5 5 (row5f D.G.c (.slice (some ⟨z1, 0, none⟩) 4 4))) := (HG5.out.blw hb1).blw hA
  replace HGL : Hid (Row (w3.alloc (.cells (held5 D.H.c z2 4) 129)) z1 (4 * 8) (lc D.G.D.p D.G.D.m)) := (HGL.out.blw hb1).blw hA
  replace HB : Hid (Blw w (w3.alloc (.cells (held5 D.H.c z2 4) 129))) := (HB.out.trans hb1).trans hA
  have HGG : Hid D.Good := ⟨HG.out.1, hg.1, HG.out.2, hg.2⟩
  clear hA hb1 hg hrow hlo HA HYY HR HG
  go_upto_region 5 with fail
  generalize (w3.alloc (.cells (held5 D.H.c z2 4) 129)) = w4 at *
  generalize w3.heap.size = x5 at *
  obtain ⟨t0, t1, t2, t3, t4, t5, t6, t7, t8, t9⟩ := get10 HZ.out
  have f0 := HZ.out.frozen 0; have f1 := HZ.out.frozen 1; have f2 := HZ.out.frozen 2; have f3 := HZ.out.frozen 3; have f4 := HZ.out.frozen 4; have f5 := HZ.out.frozen 5; have f6 := HZ.out.frozen 6; have f7 := HZ.out.frozen 7; have f8 := HZ.out.frozen 8; have f9 := HZ.out.frozen 9
  obtain ⟨s0, s1, s2, s3, s4⟩ := get5 HG5.out
  obtain ⟨u0, u1, u2, u3, u4⟩ := get5 HH5.out
  clear HZ HG5 HH5
  go_wp2
  refine bodyPost_ret (v := .tuple #[.agg (held10 D.G.c D.H.c z1 4 z2 4), .bool true]) (by simp [results, Try.results111, go_sem, t0, t1, t2, t3, t4, t5, t6, t7, t8, t9]) rfl ?_
  have hz := HZL.out
  have hz2 := HZ12.out
  have hm := set10_mod w4 (w.heap.size + 1) (.int .i64 (D.G.c 0)) (.int .i64 (D.G.c 1)) (.int .i64 (D.G.c 2)) (.int .i64 (D.G.c 3)) (.slice (some ⟨z1, 0, none⟩) 4 4) (.int .i64 (D.H.c 0)) (.int .i64 (D.H.c 1)) (.int .i64 (D.H.c 2)) (.int .i64 (D.H.c 3)) (.slice (some ⟨z2, 0, none⟩) 4 4)
  exact ⟨Or.inl ⟨z1, z2, HGG.out, rfl, HGL.out.mod hm (by omega), HHL.out.mod hm (by omega), by omega, hz2⟩, set10_blw HB.out (by omega) _ _ _ _ _ _ _ _ _ _⟩
end Go.Proofs.Ytjplodenflkghaa
