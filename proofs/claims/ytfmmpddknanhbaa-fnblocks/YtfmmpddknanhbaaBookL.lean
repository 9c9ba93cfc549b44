/- The laws' functions on owners: measured, copied, compared, marked, held. -/
import Derived.Test.YtfmmpddknanhbaaBook
namespace Go.Proofs.Ytfmmpddknanhbaa
open Go.RowKit
set_option linter.unusedSimpArgs false
set_option linter.unusedVariables false
theorem drewN_blw (w : World) (n : Nat) : Blw w (w.drewN n) := (Blw.refl w).drewN n
set_option maxHeartbeats 800000 in
theorem szBook_any (b : BV) (B : BD) (Y : Nat → Prop) (w : World) (h : BookAt Y w b B) :
    Calls Try.prog 45 #[b.val B, .int .i64 1048576] w fun e w' => ∃ r : Int, e = .returned (.int .i64 r) ∧ Left 1048576 (B.n + B.k) r ∧ Blw w w' := by
  have hn := h.c.1
  have hk := h.l.1
  clear h
  obtain ⟨n, c, k, l⟩ := B
  dsimp only at hn hk
  go_enter Try.func45, Try.ntmps45
  go_wp2_with fail
  refine (szIntS_any _ _ _ _ _ hn (by omega) (by omega)).mono ?_
  rintro e w1 ⟨r, rfl, hr, hb1⟩
  have rb := (box2 w (.slice b.a1 n b.c1) (.slice b.a2 k b.c2) 54).blw hb1
  obtain ⟨p0, p1⟩ := get2 rb
  replace hb1 : Blw w w1 := ((Blw.refl _).alloc _).trans hb1
  clear rb
  rcases hr with rfl | ⟨g0, g1⟩
  · clear p0 p1
    go_wp2
    go_ret
    exact ⟨_, rfl, Or.inl rfl, hb1⟩
  · have hnn : ¬ r < 0 := by omega
    go_wp2_with fail
    clear p0 p1
    refine (szIntS_any _ _ _ _ _ hk (by omega) (by omega)).mono ?_
    rintro e w2 ⟨r2, rfl, hr2, hb2⟩
    replace hb2 := hb1.trans hb2
    clear hb1 hnn
    rcases hr2 with rfl | ⟨g2, g3⟩
    · go_wp2
      go_ret
      exact ⟨_, rfl, Or.inl rfl, hb2⟩
    · have hnn : ¬ r2 < 0 := by omega
      go_wp2
      go_ret
      exact ⟨_, rfl, Or.inr ⟨g2, by omega⟩, hb2⟩
theorem set2_0 {w : World} {B : Nat} {a b : Value} (r : Row w B 2 (fun i => if i = 0 then a else b)) (u : Value) : Row (w.setCell ⟨B, 0, none⟩ u) B 2 (fun i => if i = 0 then u else b) :=
  (r.set 0 u).congr fun i hi => by by_cases e : i = 0 <;> simp [e]
theorem set2_1 {w : World} {B : Nat} {a b : Value} (r : Row w B 2 (fun i => if i = 0 then a else b)) (u : Value) : Row (w.setCell ⟨B, 1, none⟩ u) B 2 (fun i => if i = 0 then a else u) :=
  (r.set 1 u).congr fun i hi => by
    by_cases e : i = 0
    · simp [e]
    · obtain rfl : i = 1 := by omega
      simp
/-- The blocks that toBook lays first. -/
theorem to_boxes (w : World) (x y : Value) :
    let w0 := ((w.alloc (.cells #[x, y] 54)).alloc (.cells #[.slice none 0 0, .slice none 0 0] 25)).alloc (.cells #[.slice none 0 0, .slice none 0 0] 25)
    Blw w w0 ∧ Row w0 w.heap.size 2 (fun i => if i = 0 then x else y) ∧ Row w0 (w.heap.size + 1) 2 (fun i => if i = 0 then .slice none 0 0 else .slice none 0 0) ∧ Row w0 (w.heap.size + 1 + 1) 2 (fun i => if i = 0 then .slice none 0 0 else .slice none 0 0) ∧ w0.heap.size = w.heap.size + 1 + 1 + 1 := by
  intro w0
  have b1 : Blw (w.alloc (.cells #[x, y] 54)) w0 := ((Blw.refl _).alloc _).alloc _
  have b2 : Blw ((w.alloc (.cells #[x, y] 54)).alloc (.cells #[.slice none 0 0, .slice none 0 0] 25)) w0 := (Blw.refl _).alloc _
  refine ⟨(((Blw.refl _).alloc _).alloc _).alloc _, (box2 w x y 54).blw b1, ?_, ?_, by simp [w0]⟩
  · have := (box2 (w.alloc (.cells #[x, y] 54)) (.slice none 0 0) (.slice none 0 0) 25).blw b2
    rw [World.size_alloc] at this
    exact this
  · have := box2 ((w.alloc (.cells #[x, y] 54)).alloc (.cells #[.slice none 0 0, .slice none 0 0] 25)) (.slice none 0 0) (.slice none 0 0) 25
    rw [World.size_alloc, World.size_alloc] at this
    exact this
theorem set2_blw {w w1 : World} {B : Nat} (h : Blw w w1) (hB : w.heap.size ≤ B) (v0 v1 : Value) : Blw w ((w1.setCell ⟨B, 0, none⟩ v0).setCell ⟨B, 1, none⟩ v1) := (h.setCell hB _).setCell hB _
theorem set2_mod {X : Nat → Prop} (w1 : World) {B : Nat} (hB : X B) (v0 v1 : Value) : Mod X w1 ((w1.setCell ⟨B, 0, none⟩ v0).setCell ⟨B, 1, none⟩ v1) :=
  (Mod.setCell _ (p := ⟨B, 0, none⟩) hB _).trans (Mod.setCell _ (p := ⟨B, 1, none⟩) hB _)
set_option maxHeartbeats 1600000 in
theorem toBook_any (b : BV) (B : BD) (Y : Nat → Prop) (w : World) (hS : B.n + B.k ≤ 1048576) (h : BookAt Y w b B) :
    Calls Try.prog 46 #[b.val B] w fun e w' => ∃ b' : BV, e = .returned (b'.val B) ∧ BookOwn (fun x => w.heap.size ≤ x ∧ x < w'.heap.size) w' b' B ∧ Blw w w' := by
  obtain ⟨n, c, k, l⟩ := B
  dsimp only at hS
  have HC : Hid (IntsAt Y w b.a1 n c) := h.c
  have HL : Hid (IntsAt Y w b.a2 k l) := h.l
  clear h
  go_enter Try.func46, Try.ntmps46
  go_wp2_with fail
  obtain ⟨hb0, r0, r1, r2, hz⟩ := to_boxes w (.slice b.a1 n b.c1) (.slice b.a2 k b.c2)
  revert hb0 r0 r1 r2 hz
  generalize ((w.alloc (.cells #[.slice b.a1 n b.c1, .slice b.a2 k b.c2] 54)).alloc (.cells #[.slice none 0 0, .slice none 0 0] 25)).alloc (.cells #[.slice none 0 0, .slice none 0 0] 25) = w0
  intro hb0 r0 r1 r2 hz
  refine (toIntS_any _ _ n c Y _ (by omega) (HC.out.blw hb0)).mono ?_
  rintro e w1 ⟨rfl, hi, hb1⟩
  rw [hz] at hi
  replace r0 := r0.blw hb1
  replace r1 := r1.blw hb1
  replace r2 := r2.blw hb1
  have hs0 := set2_0 r2 (.slice (some ⟨w.heap.size + 1 + 1 + 1, 0, none⟩) n n)
  have hm0 : Mod (fun x => x = w.heap.size + 1 + 1) w1 (w1.setCell ⟨w.heap.size + 1 + 1, 0, none⟩ (.slice (some ⟨w.heap.size + 1 + 1 + 1, 0, none⟩) n n)) := Mod.setCell (X := fun x => x = w.heap.size + 1 + 1) _ (p := ⟨w.heap.size + 1 + 1, 0, none⟩) rfl _
  have r0' := r0.mod hm0 (by omega)
  have hi' := hi.mod hm0 (by omega)
  have r1' := r1.mod hm0 (by omega)
  have hb2 : Blw w (w1.setCell ⟨w.heap.size + 1 + 1, 0, none⟩ (.slice (some ⟨w.heap.size + 1 + 1 + 1, 0, none⟩) n n)) := Mod.blw (hb0.trans hb1) hm0 (fun i hi => by omega)
  obtain ⟨p0, p1⟩ := get2 r2
  have q0 := r2.frozen 0
  obtain ⟨s0, s1⟩ := get2 r0'
  clear r2 r0 hm0 r1 hi
  go_wp2_with fail
  clear p0 p1 q0
  revert hs0 r0' hi' r1' hb2 s0 s1
  generalize w1.setCell ⟨w.heap.size + 1 + 1, 0, none⟩ (.slice (some ⟨w.heap.size + 1 + 1 + 1, 0, none⟩) n n) = w2
  intro hs0 r0' hi' r1' hb2 s0 s1
  clear s0 s1 r0'
  have hz2 := hi'.lt
  refine (toIntS_any _ _ k l Y _ (by omega) (HL.out.blw hb2)).mono ?_
  rintro e w3 ⟨rfl, hu, hb3⟩
  replace hs0 := hs0.blw hb3
  replace hi' := hi'.blw hb3
  replace r1' := r1'.blw hb3
  replace hb2 := hb2.trans hb3
  clear hb3 hb1 hb0 hz HC HL
  obtain ⟨p0, p1⟩ := get2 hs0
  obtain ⟨t0, t1⟩ := get2 r1'
  have f1 := hs0.frozen 1
  have g0 := r1'.frozen 0
  have g1 := r1'.frozen 1
  have l3 := hu.lt
  have HI : Hid (Row w3 (w.heap.size + 1 + 1 + 1) n (fun t => .int .i64 (c t))) := hi'
  have HU : Hid (Row w3 w2.heap.size k (fun t => .int .i64 (l t))) := hu
  have HB : Hid (Blw w w3) := hb2
  have HN : Hid (w.heap.size + 1 + 1 + 1 < w2.heap.size) := hz2
  have HN3 : Hid (w2.heap.size < w3.heap.size) := l3
  clear hi' hu hb2 hz2 l3 hs0 r1'
  generalize w2.heap.size = z2 at *
  go_wp2
  refine bodyPost_ret (v := .agg #[.slice (some ⟨w.heap.size + 1 + 1 + 1, 0, none⟩) n n, .slice (some ⟨z2, 0, none⟩) k k]) (by simp [results, Try.results46, go_sem, t0, t1]) rfl ?_
  have m1 : Mod (fun x => x = w.heap.size + 1 ∨ x = w.heap.size + 1 + 1) w3 (((w3.setCell ⟨w.heap.size + 1 + 1, 1, none⟩ (.slice (some ⟨z2, 0, none⟩) k k)).setCell ⟨w.heap.size + 1, 0, none⟩ (.slice (some ⟨w.heap.size + 1 + 1 + 1, 0, none⟩) n n)).setCell ⟨w.heap.size + 1, 1, none⟩ (.slice (some ⟨z2, 0, none⟩) k k)) :=
    (Mod.setCell _ (p := ⟨w.heap.size + 1 + 1, 1, none⟩) (Or.inr rfl) _).trans (set2_mod _ (Or.inl rfl) _ _)
  have h3 := HN.out
  have h4 := HN3.out
  have h5 := m1.size
  refine ⟨⟨some ⟨w.heap.size + 1 + 1 + 1, 0, none⟩, some ⟨z2, 0, none⟩, n, k⟩, rfl, ⟨fun x => x = w.heap.size + 1 + 1 + 1, fun x => x = z2, fun x hx => ⟨⟨by omega, by omega⟩, by omega⟩, fun x hx => ⟨by omega, by omega⟩, ⟨by show n ≤ _; omega, fun _ => ⟨_, rfl, rfl, HI.out.mod m1 (by omega)⟩⟩, ⟨by show k ≤ _; omega, fun _ => ⟨_, rfl, rfl, HU.out.mod m1 (by omega)⟩⟩⟩, Mod.blw HB.out m1 (fun i hi => by omega)⟩
set_option maxHeartbeats 1600000 in
theorem eqBook_same (b b' : BV) (B : BD) {X Y : Nat → Prop} (w : World) (h1 : BookAt X w b B) (h2 : BookAt Y w b' B) :
    Calls Try.prog 42 #[b.val B, b'.val B] w fun e w' => e = .returned (.bool true) ∧ Blw w w' := by
  obtain ⟨n, c, k, l⟩ := B
  have H1 : Hid (BookAt X w b ⟨n, c, k, l⟩) := h1
  have H2 : Hid (BookAt Y w b' ⟨n, c, k, l⟩) := h2
  clear h1 h2
  go_enter Try.func42, Try.ntmps42
  go_wp2_with fail
  have rA := (box2 w (.slice b.a1 n b.c1) (.slice b.a2 k b.c2) 25).blw ((Blw.refl _).alloc (.cells #[.slice b'.a1 n b'.c1, .slice b'.a2 k b'.c2] 25))
  have rB := box2 (w.alloc (.cells #[.slice b.a1 n b.c1, .slice b.a2 k b.c2] 25)) (.slice b'.a1 n b'.c1) (.slice b'.a2 k b'.c2) 25
  rw [World.size_alloc] at rB
  have hb0 : Blw w ((w.alloc (.cells #[.slice b.a1 n b.c1, .slice b.a2 k b.c2] 25)).alloc (.cells #[.slice b'.a1 n b'.c1, .slice b'.a2 k b'.c2] 25)) := ((Blw.refl _).alloc _).alloc _
  refine (eqIntS_same _ _ _ _ n c _ (H1.out.c.blw hb0) (H2.out.c.blw hb0)).mono ?_
  rintro e w1 ⟨rfl, m, rfl⟩
  have hb1 := drewN_blw ((w.alloc (.cells #[.slice b.a1 n b.c1, .slice b.a2 k b.c2] 25)).alloc (.cells #[.slice b'.a1 n b'.c1, .slice b'.a2 k b'.c2] 25)) m
  replace rA := rA.blw hb1
  replace rB := rB.blw hb1
  replace hb1 := hb0.trans hb1
  clear hb0
  revert rA rB hb1
  generalize ((w.alloc (.cells #[.slice b.a1 n b.c1, .slice b.a2 k b.c2] 25)).alloc (.cells #[.slice b'.a1 n b'.c1, .slice b'.a2 k b'.c2] 25)).drewN m = w1
  intro rA rB hb1
  obtain ⟨p0, p1⟩ := get2 rA
  obtain ⟨q0, q1⟩ := get2 rB
  clear rA rB
  go_wp2_with fail
  clear p0 p1 q0 q1
  refine (eqIntS_same _ _ _ _ k l _ (H1.out.l.blw hb1) (H2.out.l.blw hb1)).mono ?_
  rintro e w2 ⟨rfl, m2, rfl⟩
  have hb2 := drewN_blw w1 m2
  replace hb2 := hb1.trans hb2
  clear hb1 H1 H2
  go_wp2
  go_ret
  exact ⟨rfl, hb2⟩
/-- What a book holds behind markBook. -/
def BD.marked (B : BD) (k : Int) : BD := ⟨B.n, fun i => k + i, B.k, fun i => k + B.n + i⟩
def BD.total (B : BD) : Nat := B.n + B.k
set_option maxHeartbeats 1600000 in
theorem markBook_any (b : BV) (B : BD) (X : Nat → Prop) (w : World) (hS : B.n + B.k ≤ 1048576) (hX : ∀ b, X b → b < w.heap.size) (h : BookOwn X w b B) :
    Calls Try.prog 43 #[b.val B, .int .i64 1] w fun e w' => e = .returned (.int .i64 (1 + B.total)) ∧ BookOwn X w' b (B.marked 1) ∧ Mod X w w' := by
  obtain ⟨n, c, k, l⟩ := B
  dsimp only at hS
  obtain ⟨X1, X2, d1, d2, hc, hl⟩ := h.ex
  have HC : Hid (IntsOwn X1 w b.a1 n c) := hc
  have HL : Hid (IntsOwn X2 w b.a2 k l) := hl
  clear h hc hl
  go_enter Try.func43, Try.ntmps43
  go_wp2_with fail
  have hb0 : Blw w (w.alloc (.cells #[.slice b.a1 n b.c1, .slice b.a2 k b.c2] 25)) := (Blw.refl _).alloc _
  have rA := box2 w (.slice b.a1 n b.c1) (.slice b.a2 k b.c2) 25
  refine (markIntS_any _ _ n c X1 1 _ (by omega) (by omega) (HC.out.blw hb0)).mono ?_
  rintro e w1 ⟨rfl, hc1, hm1⟩
  replace rA := rA.mod hm1 (fun hh => by have := hX _ (d1 _ hh.1).1; omega)
  obtain ⟨p0, p1⟩ := get2 rA
  have HM : Hid (Mod X w w1) := (hb0.mod X).trans (hm1.mono (fun x hx => (d1 x hx.1).1))
  have HL1 : Hid (IntsOwn X2 w1 b.a2 k l) := (HL.out.blw hb0).mod hm1 (fun x hx hh => (d1 x hh.1).2 hx)
  have HC1 : Hid (IntsOwn X1 w1 b.a1 n (fun i => 1 + i)) := hc1
  clear hb0 rA hc1 hm1 HC HL
  go_wp2_with fail
  clear p0 p1
  refine (markIntS_any _ _ k l X2 _ _ (by omega) (by omega) HL1.out).mono ?_
  rintro e w2 ⟨rfl, hl2, hm2⟩
  have HC2 : Hid (IntsOwn X1 w2 b.a1 n (fun i => 1 + i)) := HC1.out.mod hm2 (fun x hx hh => (d1 x hx).2 hh.1)
  have HL2 : Hid (IntsOwn X2 w2 b.a2 k (fun i => 1 + (n : Int) + i)) := hl2
  have HM2 : Hid (Mod X w w2) := HM.out.trans (hm2.mono (fun x hx => d2 x hx.1))
  clear HL1 HC1 HM hl2 hm2
  go_wp2
  go_ret
  refine ⟨ret_int (by simp [BD.total]; omega), ⟨X1, X2, d1, d2, HC2.out, HL2.out⟩, HM2.out⟩
set_option maxHeartbeats 1600000 in
theorem heldBook_any (b : BV) (B : BD) (X : Nat → Prop) (w : World) (hS : B.n + B.k ≤ 1048576) (h : BookOwn X w b (B.marked 1)) :
    Calls Try.prog 44 #[b.val B, .int .i64 1] w fun e w' => e = .returned (.int .i64 (1 + B.total)) ∧ Blw w w' := by
  obtain ⟨n, c, k, l⟩ := B
  dsimp only at hS
  obtain ⟨X1, X2, d1, d2, hc, hl⟩ := h.ex
  have HC : Hid (IntsOwn X1 w b.a1 n (fun i => 1 + i)) := hc
  have HL : Hid (IntsOwn X2 w b.a2 k (fun i => 1 + (n : Int) + i)) := hl
  clear h hc hl
  go_enter Try.func44, Try.ntmps44
  go_wp2_with fail
  have hb0 : Blw w (w.alloc (.cells #[.slice b.a1 n b.c1, .slice b.a2 k b.c2] 25)) := (Blw.refl _).alloc _
  have rA := box2 w (.slice b.a1 n b.c1) (.slice b.a2 k b.c2) 25
  refine (heldIntS_any _ _ n X1 1 _ (by omega) (by omega) (HC.out.blw hb0).at).mono ?_
  rintro e w1 ⟨rfl, hb1⟩
  replace rA := rA.blw hb1
  replace hb1 := hb0.trans hb1
  obtain ⟨p0, p1⟩ := get2 rA
  have k1 : ¬ (1 + (n : Int) < 0) := by omega
  clear hb0 rA HC
  go_wp2_with fail
  clear p0 p1
  refine (heldIntS_any _ _ k X2 _ _ (by omega) (by omega) (HL.out.blw hb1).at).mono ?_
  rintro e w2 ⟨rfl, hb2⟩
  replace hb2 := hb1.trans hb2
  clear hb1 HL k1
  have k2 : ¬ (1 + (n : Int) + k < 0) := by omega
  go_wp2
  go_ret
  exact ⟨ret_int (by simp [BD.total]; omega), hb2⟩
end Go.Proofs.Ytfmmpddknanhbaa
