/- Wheels: what they read as, what is owned; measured, copied, compared, marked, held. -/
import Derived.Test.YtkmkidahaagbpaaPsL
namespace Go.Proofs.Ytkmkidahaagbpaa
open Go.RowKit
set_option linter.unusedSimpArgs false
set_option linter.unusedVariables false
/-- What a wheel holds. -/
structure WD where
  now : Int
  N : PD
  F : PD
structure WV where
  a1 : Option Addr
  a2 : Option Addr
  c1 : Nat
  c2 : Nat
abbrev WV.val (v : WV) (D : WD) : Value := .agg #[.int .i64 D.now, .slice v.a1 D.N.n v.c1, .slice v.a2 D.F.n v.c2]
structure WAt (Y : Nat → Prop) (w : World) (v : WV) (D : WD) : Prop where
  n : PSAt Y w v.a1 D.N
  f : PSAt Y w v.a2 D.F
structure WOwn (X : Nat → Prop) (w : World) (v : WV) (D : WD) : Prop where
  ex : ∃ X1 X2 : Nat → Prop, (∀ b, X1 b → X b ∧ ¬ X2 b) ∧ (∀ b, X2 b → X b) ∧ PSOwn X1 w v.a1 D.N ∧ PSOwn X2 w v.a2 D.F
theorem WAt.mod {X Y : Nat → Prop} {w w' : World} {v : WV} {D : WD} (h : WAt Y w v D) (hb : Mod X w w') (hxy : ∀ k, Y k → ¬ X k) : WAt Y w' v D := ⟨h.n.mod hb hxy, h.f.mod hb hxy⟩
theorem WAt.blw {Y : Nat → Prop} {w w' : World} {v : WV} {D : WD} (h : WAt Y w v D) (hb : Blw w w') : WAt Y w' v D := ⟨h.n.blw hb, h.f.blw hb⟩
theorem WAt.mono {X Y : Nat → Prop} {w : World} {v : WV} {D : WD} (h : WAt X w v D) (hxy : ∀ b, X b → Y b) : WAt Y w v D := ⟨h.n.mono hxy, h.f.mono hxy⟩
theorem WOwn.at {X : Nat → Prop} {w : World} {v : WV} {D : WD} (h : WOwn X w v D) : WAt X w v D := by
  obtain ⟨X1, X2, h1, h2, c, l⟩ := h.ex
  exact ⟨c.at.mono (fun b hb => (h1 b hb).1), l.at.mono h2⟩
theorem WOwn.mod {X Z : Nat → Prop} {w w' : World} {v : WV} {D : WD} (h : WOwn X w v D) (hb : Mod Z w w') (hxz : ∀ b, X b → ¬ Z b) : WOwn X w' v D := by
  obtain ⟨X1, X2, h1, h2, c, l⟩ := h.ex
  exact ⟨X1, X2, h1, h2, c.mod hb (fun b hb => hxz b (h1 b hb).1), l.mod hb (fun b hb => hxz b (h2 b hb))⟩
theorem WOwn.blw {X : Nat → Prop} {w w' : World} {v : WV} {D : WD} (h : WOwn X w v D) (hb : Blw w w') : WOwn X w' v D := h.mod (hb.mod (fun _ => False)) (fun _ _ => id)
theorem WOwn.mono {X Y : Nat → Prop} {w : World} {v : WV} {D : WD} (h : WOwn X w v D) (hxy : ∀ b, X b → Y b) : WOwn Y w v D := by
  obtain ⟨X1, X2, h1, h2, c, l⟩ := h.ex
  exact ⟨X1, X2, fun b hb => ⟨hxy _ (h1 b hb).1, (h1 b hb).2⟩, fun b hb => hxy _ (h2 b hb), c, l⟩
abbrev WD.zero : WD := ⟨0, PD.zero, PD.zero⟩
abbrev WV.zero : WV := ⟨none, none, 0, 0⟩
theorem WOwn.zero (X : Nat → Prop) (w : World) : WOwn X w WV.zero WD.zero := ⟨fun _ => False, fun _ => False, fun _ h => h.elim, fun _ h => h.elim, PSOwn.zero _ _ _, PSOwn.zero _ _ _⟩
/-- Rows of three cells. -/
abbrev t3 (a b c : Value) : Nat → Value := fun i => if i = 0 then a else if i = 1 then b else c
theorem box3 (w : World) (a b c : Value) (t : TypeId) : Row (w.alloc (.cells #[a, b, c] t)) w.heap.size 3 (t3 a b c) :=
  ⟨_, t, heap_alloc_new _ _, by simp, fun i hi => by
    match i, hi with
    | 0, _ => rfl
    | 1, _ => rfl
    | 2, _ => rfl⟩
theorem get3 {w : World} {B : Nat} {a b c : Value} (r : Row w B 3 (t3 a b c)) : w.cell? ⟨B, 0, none⟩ = some a ∧ w.cell? ⟨B, 1, none⟩ = some b ∧ w.cell? ⟨B, 2, none⟩ = some c :=
  ⟨r.cell (i := 0) (by omega), r.cell (i := 1) (by omega), r.cell (i := 2) (by omega)⟩
theorem set3_0 {w : World} {B : Nat} {a b c : Value} (r : Row w B 3 (t3 a b c)) (u : Value) : Row (w.setCell ⟨B, 0, none⟩ u) B 3 (t3 u b c) :=
  (r.set 0 u).congr fun i hi => by by_cases e : i = 0 <;> simp [t3, e]
theorem set3_1 {w : World} {B : Nat} {a b c : Value} (r : Row w B 3 (t3 a b c)) (u : Value) : Row (w.setCell ⟨B, 1, none⟩ u) B 3 (t3 a u c) :=
  (r.set 1 u).congr fun i hi => by by_cases e : i = 1 <;> simp [t3, e]
theorem set3_2 {w : World} {B : Nat} {a b c : Value} (r : Row w B 3 (t3 a b c)) (u : Value) : Row (w.setCell ⟨B, 2, none⟩ u) B 3 (t3 a b u) :=
  (r.set 2 u).congr fun i hi => by
    by_cases e : i = 2
    · subst e; simp [t3]
    · have h1 : i = 0 ∨ i = 1 := by omega
      rcases h1 with rfl | rfl <;> simp [t3]
abbrev wcells (v : WV) (D : WD) : Array Value := #[.int .i64 D.now, .slice v.a1 D.N.n v.c1, .slice v.a2 D.F.n v.c2]
abbrev wrow (v : WV) (D : WD) : Nat → Value := t3 (.int .i64 D.now) (.slice v.a1 D.N.n v.c1) (.slice v.a2 D.F.n v.c2)
def WD.small (D : WD) : Prop := (D.N.n + D.N.tot) + (D.F.n + D.F.tot) ≤ 1048576
set_option maxHeartbeats 1600000 in
theorem szWheel_any (v : WV) (D : WD) (Y : Nat → Prop) (w : World) (h : WAt Y w v D) :
    Calls Try.prog 37 #[v.val D, .int .i64 1048576] w fun e w' => ∃ r : Int, e = .returned (.int .i64 r) ∧ (r = -1 ∨ (0 ≤ r ∧ D.small)) ∧ Blw w w' := by
  have HN : Hid (PSAt Y w v.a1 D.N) := h.n
  have HF : Hid (PSAt Y w v.a2 D.F) := h.f
  clear h
  obtain ⟨now, N, F⟩ := D
  dsimp only at HN HF
  go_enter Try.func37, Try.ntmps37
  go_wp2_with fail
  have hb0 : Blw w (w.alloc (.cells #[.int .i64 now, .slice v.a1 N.n v.c1, .slice v.a2 F.n v.c2] 55)) := (Blw.refl _).alloc _
  have rA := box3 w (.int .i64 now) (.slice v.a1 N.n v.c1) (.slice v.a2 F.n v.c2) 55
  refine (szSS_any _ _ N Y _ _ (by omega) (by omega) (HN.out.blw hb0)).mono ?_
  rintro e w1 ⟨r, rfl, hr, hb1⟩
  replace rA := rA.blw hb1
  replace hb1 := hb0.trans hb1
  obtain ⟨p0, p1, p2⟩ := get3 rA
  clear rA hb0 HN
  rcases hr with rfl | ⟨g0, g1⟩
  · clear p0 p1 p2
    go_wp2
    go_ret
    exact ⟨_, rfl, Or.inl rfl, hb1⟩
  · have hnn : ¬ r < 0 := by omega
    go_wp2_with fail
    clear p0 p1 p2
    refine (szSS_any _ _ F Y _ _ (by omega) (by omega) (HF.out.blw hb1)).mono ?_
    rintro e w2 ⟨r2, rfl, hr2, hb2⟩
    replace hb2 := hb1.trans hb2
    clear hb1 hnn
    rcases hr2 with rfl | ⟨g2, g3⟩
    · go_wp2
      go_ret
      exact ⟨_, rfl, Or.inl rfl, hb2⟩
    · have hnn : ¬ r2 < 0 := by omega
      have HS : Hid (WD.small ⟨now, N, F⟩) := by show _ ≤ _; dsimp only; omega
      clear g1 g3
      go_wp2
      go_ret
      exact ⟨_, rfl, Or.inr ⟨g2, HS.out⟩, hb2⟩
theorem wh_boxes (w : World) (a b c : Value) :
    let w0 := ((w.alloc (.cells #[a, b, c] 55)).alloc (.cells #[.int .i64 0, .slice none 0 0, .slice none 0 0] 25)).alloc (.cells #[a, .slice none 0 0, .slice none 0 0] 25)
    Blw w w0 ∧ Row w0 w.heap.size 3 (t3 a b c) ∧ Row w0 (w.heap.size + 1) 3 (t3 (.int .i64 0) (.slice none 0 0) (.slice none 0 0)) ∧ Row w0 (w.heap.size + 1 + 1) 3 (t3 a (.slice none 0 0) (.slice none 0 0)) ∧ w0.heap.size = w.heap.size + 1 + 1 + 1 := by
  intro w0
  have b1 : Blw (w.alloc (.cells #[a, b, c] 55)) w0 := ((Blw.refl _).alloc _).alloc _
  have b2 : Blw ((w.alloc (.cells #[a, b, c] 55)).alloc (.cells #[.int .i64 0, .slice none 0 0, .slice none 0 0] 25)) w0 := (Blw.refl _).alloc _
  refine ⟨(((Blw.refl _).alloc _).alloc _).alloc _, (box3 w a b c 55).blw b1, ?_, ?_, by simp [w0]⟩
  · have := (box3 (w.alloc (.cells #[a, b, c] 55)) (.int .i64 0) (.slice none 0 0) (.slice none 0 0) 25).blw b2
    rw [World.size_alloc] at this
    exact this
  · have := box3 ((w.alloc (.cells #[a, b, c] 55)).alloc (.cells #[.int .i64 0, .slice none 0 0, .slice none 0 0] 25)) a (.slice none 0 0) (.slice none 0 0) 25
    rw [World.size_alloc, World.size_alloc] at this
    exact this
theorem set3_mod {X : Nat → Prop} (w1 : World) {B : Nat} (hB : X B) (v0 v1 v2 : Value) : Mod X w1 (((w1.setCell ⟨B, 0, none⟩ v0).setCell ⟨B, 1, none⟩ v1).setCell ⟨B, 2, none⟩ v2) :=
  ((Mod.setCell _ (p := ⟨B, 0, none⟩) hB _).trans (Mod.setCell _ (p := ⟨B, 1, none⟩) hB _)).trans (Mod.setCell _ (p := ⟨B, 2, none⟩) hB _)
set_option maxHeartbeats 1600000 in
theorem toWheel_any (v : WV) (D : WD) (Y : Nat → Prop) (w : World) (hS : D.small) (h : WAt Y w v D) :
    Calls Try.prog 39 #[v.val D] w fun e w' => ∃ v' : WV, e = .returned (v'.val D) ∧ WOwn (fun x => w.heap.size ≤ x ∧ x < w'.heap.size) w' v' D ∧ Blw w w' := by
  have HN : Hid (PSAt Y w v.a1 D.N) := h.n
  have HF : Hid (PSAt Y w v.a2 D.F) := h.f
  have HS : Hid D.small := hS
  clear h hS
  obtain ⟨now, N, F⟩ := D
  dsimp only at HN HF
  go_enter Try.func39, Try.ntmps39
  go_wp2_with fail
  obtain ⟨hb0, r0, r1, r2, hz⟩ := wh_boxes w (.int .i64 now) (.slice v.a1 N.n v.c1) (.slice v.a2 F.n v.c2)
  revert hb0 r0 r1 r2 hz
  generalize ((w.alloc (.cells #[.int .i64 now, .slice v.a1 N.n v.c1, .slice v.a2 F.n v.c2] 55)).alloc (.cells #[.int .i64 0, .slice none 0 0, .slice none 0 0] 25)).alloc (.cells #[.int .i64 now, .slice none 0 0, .slice none 0 0] 25) = w0
  intro hb0 r0 r1 r2 hz
  refine (toSS_any _ _ N Y _ (by have : _ ≤ _ := HS.out; dsimp only at this; omega) (HN.out.blw hb0)).mono ?_
  rintro e w1 ⟨rfl, hi, hb1⟩
  have hz1 := hb1.size
  replace r0 := r0.blw hb1
  replace r1 := r1.blw hb1
  replace r2 := r2.blw hb1
  have HB1 : Hid (Blw w w1) := hb0.trans hb1
  have s2 := set3_1 r2 (.slice (some ⟨w0.heap.size, 0, none⟩) N.n N.n)
  have hm : Mod (fun x => x = w.heap.size + 1 + 1) w1 (w1.setCell ⟨w.heap.size + 1 + 1, 1, none⟩ (.slice (some ⟨w0.heap.size, 0, none⟩) N.n N.n)) := Mod.setCell (X := fun x => x = w.heap.size + 1 + 1) _ (p := ⟨w.heap.size + 1 + 1, 1, none⟩) rfl _
  have s0 := r0.mod hm (by omega)
  have s1 := r1.mod hm (by omega)
  have hi' := hi.mod hm (fun x hx e => by omega)
  have hb2 : Blw w (w1.setCell ⟨w.heap.size + 1 + 1, 1, none⟩ (.slice (some ⟨w0.heap.size, 0, none⟩) N.n N.n)) := Mod.blw HB1.out hm (fun i hi => by omega)
  have hz2 := hm.size
  obtain ⟨p0, p1, p2⟩ := get3 r2
  have q1 := r2.frozen 1
  obtain ⟨u0, u1, u2⟩ := get3 s0
  clear r2 r0 r1 hm hi HB1
  rw [hz] at *
  go_wp2_with fail
  clear p0 p1 p2 q1 u0 u1 u2
  revert s2 s0 s1 hi' hb2 hz2
  generalize w1.setCell ⟨w.heap.size + 1 + 1, 1, none⟩ (.slice (some ⟨w.heap.size + 1 + 1 + 1, 0, none⟩) N.n N.n) = w2
  intro s2 s0 s1 hi' hb2 hz2
  refine (toSS_any _ _ F Y _ (by have : _ ≤ _ := HS.out; dsimp only at this; omega) (HF.out.blw hb2)).mono ?_
  rintro e w3 ⟨rfl, hu, hb3⟩
  have hz3 := hb3.size
  replace s2 := s2.blw hb3
  replace s1 := s1.blw hb3
  replace hi' := hi'.blw hb3
  replace hb2 := hb2.trans hb3
  obtain ⟨p0, p1, p2⟩ := get3 s2
  obtain ⟨u0, u1, u2⟩ := get3 s1
  have f2 := s2.frozen 2
  have g0 := s1.frozen 0
  have g1 := s1.frozen 1
  have g2 := s1.frozen 2
  have HI : Hid (PSOwn (fun x => w.heap.size + 1 + 1 + 1 ≤ x ∧ x < w1.heap.size) w3 (some ⟨w.heap.size + 1 + 1 + 1, 0, none⟩) N) := hi'
  have HU : Hid (PSOwn (fun x => w2.heap.size ≤ x ∧ x < w3.heap.size) w3 (some ⟨w2.heap.size, 0, none⟩) F) := hu
  have HB : Hid (Blw w w3) := hb2
  have HZ : Hid (w.heap.size + 1 + 1 + 1 ≤ w1.heap.size ∧ w1.heap.size ≤ w2.heap.size ∧ w2.heap.size ≤ w3.heap.size) := ⟨hz1, hz2, hz3⟩
  clear hi' hu hb2 hz2 hz3 hz1 s2 s1 s0 hb3 hb0 hz HN HF HS hb1
  generalize w2.heap.size = z2 at *
  generalize w1.heap.size = z1 at *
  go_wp2
  refine bodyPost_ret (v := .agg #[.int .i64 now, .slice (some ⟨w.heap.size + 1 + 1 + 1, 0, none⟩) N.n N.n, .slice (some ⟨z2, 0, none⟩) F.n F.n]) (by simp [results, Try.results39, go_sem, u0, u1, u2]) rfl ?_
  have m1 : Mod (fun x => x = w.heap.size + 1 ∨ x = w.heap.size + 1 + 1) w3 ((((w3.setCell ⟨w.heap.size + 1 + 1, 2, none⟩ (.slice (some ⟨z2, 0, none⟩) F.n F.n)).setCell ⟨w.heap.size + 1, 0, none⟩ (.int .i64 now)).setCell ⟨w.heap.size + 1, 1, none⟩ (.slice (some ⟨w.heap.size + 1 + 1 + 1, 0, none⟩) N.n N.n)).setCell ⟨w.heap.size + 1, 2, none⟩ (.slice (some ⟨z2, 0, none⟩) F.n F.n)) :=
    (Mod.setCell _ (p := ⟨w.heap.size + 1 + 1, 2, none⟩) (Or.inr rfl) _).trans (set3_mod _ (Or.inl rfl) _ _ _)
  have h3 := HZ.out
  have h5 := m1.size
  refine ⟨⟨some ⟨w.heap.size + 1 + 1 + 1, 0, none⟩, some ⟨z2, 0, none⟩, N.n, F.n⟩, rfl, ⟨fun x => w.heap.size + 1 + 1 + 1 ≤ x ∧ x < z1, fun x => z2 ≤ x ∧ x < w3.heap.size, fun x hx => ⟨⟨by omega, by omega⟩, by omega⟩, fun x hx => ⟨by omega, by omega⟩, HI.out.mod m1 (fun x hx e => by omega), HU.out.mod m1 (fun x hx e => by omega)⟩, Mod.blw HB.out m1 (fun i hi => by omega)⟩
set_option maxHeartbeats 1600000 in
theorem eqWheel_same (v v' : WV) (D : WD) {X Y : Nat → Prop} (w : World) (h1 : WAt X w v D) (h2 : WAt Y w v' D) :
    Calls Try.prog 34 #[v.val D, v'.val D] w fun e w' => e = .returned (.bool true) ∧ Blw w w' := by
  obtain ⟨now, N, F⟩ := D
  have H1 : Hid (WAt X w v ⟨now, N, F⟩) := h1
  have H2 : Hid (WAt Y w v' ⟨now, N, F⟩) := h2
  clear h1 h2
  have hne : (now != now) = false := by simp
  go_enter Try.func34, Try.ntmps34
  go_wp2_with fail
  have rA := (box3 w (.int .i64 now) (.slice v.a1 N.n v.c1) (.slice v.a2 F.n v.c2) 25).blw ((Blw.refl _).alloc (.cells #[.int .i64 now, .slice v'.a1 N.n v'.c1, .slice v'.a2 F.n v'.c2] 25))
  have rB := box3 (w.alloc (.cells #[.int .i64 now, .slice v.a1 N.n v.c1, .slice v.a2 F.n v.c2] 25)) (.int .i64 now) (.slice v'.a1 N.n v'.c1) (.slice v'.a2 F.n v'.c2) 25
  rw [World.size_alloc] at rB
  have hb0 : Blw w ((w.alloc (.cells #[.int .i64 now, .slice v.a1 N.n v.c1, .slice v.a2 F.n v.c2] 25)).alloc (.cells #[.int .i64 now, .slice v'.a1 N.n v'.c1, .slice v'.a2 F.n v'.c2] 25)) := ((Blw.refl _).alloc _).alloc _
  refine (eqSS_same _ _ _ _ N _ (H1.out.n.blw hb0) (H2.out.n.blw hb0)).mono ?_
  rintro e w1 ⟨rfl, hb1⟩
  replace rA := rA.blw hb1
  replace rB := rB.blw hb1
  replace hb1 := hb0.trans hb1
  clear hb0
  obtain ⟨p0, p1, p2⟩ := get3 rA
  obtain ⟨q0, q1, q2⟩ := get3 rB
  clear rA rB
  go_wp2_with fail
  clear p0 p1 p2 q0 q1 q2
  refine (eqSS_same _ _ _ _ F _ (H1.out.f.blw hb1) (H2.out.f.blw hb1)).mono ?_
  rintro e w2 ⟨rfl, hb2⟩
  replace hb2 := hb1.trans hb2
  clear hb1 H1 H2
  go_wp2
  go_ret
  exact ⟨rfl, hb2⟩
/-- What a wheel holds behind markWheel. -/
def WD.marked (D : WD) (k : Int) : WD := ⟨D.now, D.N.marked k, D.F.marked (k + 2 * D.N.tot)⟩
def WD.total (D : WD) : Nat := 2 * D.N.tot + 2 * D.F.tot
set_option maxHeartbeats 1600000 in
theorem markWheel_any (v : WV) (D : WD) (X : Nat → Prop) (k : Int) (w : World) (hk0 : 0 ≤ k) (hk1 : k ≤ 1000000000) (hS : D.small) (hX : ∀ b, X b → b < w.heap.size) (h : WOwn X w v D) :
    Calls Try.prog 35 #[v.val D, .int .i64 k] w fun e w' => e = .returned (.int .i64 (k + D.total)) ∧ WOwn X w' v (D.marked k) ∧ Mod X w w' := by
  obtain ⟨now, N, F⟩ := D
  obtain ⟨X1, X2, d1, d2, hc, hl⟩ := h.ex
  have HC : Hid (PSOwn X1 w v.a1 N) := hc
  have HL : Hid (PSOwn X2 w v.a2 F) := hl
  have hS2 : (N.n + N.tot) + (F.n + F.tot) ≤ 1048576 := hS
  have HS : Hid ((N.n + N.tot) + (F.n + F.tot) ≤ 1048576) := hS2
  clear h hc hl hS hS2
  go_enter Try.func35, Try.ntmps35
  go_wp2_with fail
  have hb0 : Blw w (w.alloc (.cells #[.int .i64 now, .slice v.a1 N.n v.c1, .slice v.a2 F.n v.c2] 25)) := (Blw.refl _).alloc _
  have rA := box3 w (.int .i64 now) (.slice v.a1 N.n v.c1) (.slice v.a2 F.n v.c2) 25
  refine (markSS_any _ _ N X1 k _ (by omega) (by have := HS.out; omega) (HC.out.blw hb0)).mono ?_
  rintro e w1 ⟨rfl, hc1, hm1⟩
  replace rA := rA.mod hm1 (fun hh => by have := hX _ (d1 _ hh).1; omega)
  obtain ⟨p0, p1, p2⟩ := get3 rA
  have HM : Hid (Mod X w w1) := (hb0.mod X).trans (hm1.mono (fun x hx => (d1 x hx).1))
  have HL1 : Hid (PSOwn X2 w1 v.a2 F) := (HL.out.blw hb0).mod hm1 (fun x hx hh => (d1 x hh).2 hx)
  have HC1 : Hid (PSOwn X1 w1 v.a1 (N.marked k)) := hc1
  clear hb0 rA hc1 hm1 HC HL
  go_wp2_with fail
  clear p0 p1 p2
  refine (markSS_any _ _ F X2 _ _ (by omega) (by have := HS.out; omega) HL1.out).mono ?_
  rintro e w2 ⟨rfl, hl2, hm2⟩
  have HC2 : Hid (PSOwn X1 w2 v.a1 (N.marked k)) := HC1.out.mod hm2 (fun x hx hh => (d1 x hx).2 hh)
  have HL2 : Hid (PSOwn X2 w2 v.a2 (F.marked (k + 2 * N.tot))) := hl2
  have HM2 : Hid (Mod X w w2) := HM.out.trans (hm2.mono d2)
  clear HL1 HC1 HM hl2 hm2
  go_wp2
  go_ret
  refine ⟨ret_int (by simp only [WD.total]; omega), ⟨X1, X2, d1, d2, HC2.out, HL2.out⟩, HM2.out⟩
set_option maxHeartbeats 1600000 in
theorem heldWheel_any (v : WV) (D : WD) (X : Nat → Prop) (k : Int) (w : World) (hk0 : 0 ≤ k) (hk1 : k ≤ 1000000000) (hS : D.small) (h : WOwn X w v (D.marked k)) :
    Calls Try.prog 36 #[v.val D, .int .i64 k] w fun e w' => e = .returned (.int .i64 (k + D.total)) ∧ Blw w w' := by
  obtain ⟨now, N, F⟩ := D
  obtain ⟨X1, X2, d1, d2, hc, hl⟩ := h.ex
  have HC : Hid (PSOwn X1 w v.a1 (N.marked k)) := hc
  have HL : Hid (PSOwn X2 w v.a2 (F.marked (k + 2 * N.tot))) := hl
  have hS2 : (N.n + N.tot) + (F.n + F.tot) ≤ 1048576 := hS
  have HS : Hid ((N.n + N.tot) + (F.n + F.tot) ≤ 1048576) := hS2
  clear h hc hl hS hS2
  go_enter Try.func36, Try.ntmps36
  go_wp2_with fail
  have hb0 : Blw w (w.alloc (.cells #[.int .i64 now, .slice v.a1 N.n v.c1, .slice v.a2 F.n v.c2] 25)) := (Blw.refl _).alloc _
  have rA := box3 w (.int .i64 now) (.slice v.a1 N.n v.c1) (.slice v.a2 F.n v.c2) 25
  refine (heldSS_any _ _ N X1 k _ (by omega) (by have := HS.out; omega) (HC.out.blw hb0)).mono ?_
  rintro e w1 ⟨rfl, hb1⟩
  replace rA := rA.blw hb1
  replace hb1 := hb0.trans hb1
  obtain ⟨p0, p1, p2⟩ := get3 rA
  have k1 : ¬ (k + 2 * (N.tot : Int) < 0) := by omega
  have k2 : ¬ (k + 2 * (N.tot : Int) + 2 * (F.tot : Int) < 0) := by omega
  clear hb0 rA HC
  go_wp2_with fail
  clear p0 p1 p2
  refine (heldSS_any _ _ F X2 _ _ (by omega) (by have := HS.out; omega) (HL.out.blw hb1)).mono ?_
  rintro e w2 ⟨rfl, hb2⟩
  replace hb2 := hb1.trans hb2
  clear hb1 HL k1
  go_wp2
  go_ret
  exact ⟨ret_int (by simp only [WD.total]; omega), hb2⟩
end Go.Proofs.Ytkmkidahaagbpaa
