/- The laws' functions on tables: measured, copied, compared, marked, held. -/
import Derived.Test.YtjplodenflkghaaTab
namespace Go.Proofs.Ytjplodenflkghaa
open Go.RowKit
set_option linter.unusedSimpArgs false
set_option linter.unusedVariables false
theorem tinfo78 : (Try.prog.info? 147).map (fun i => (i.zero, i.size, i.bytes)) = some (some (.slice none 0 0), 1, 24) := by kernel_rfl
theorem mkLists (n : Nat) (hn : n ≤ 1048576) (w : World) : (Instr.makeSlice 27 (.int .i64 n) (.int .i64 n)).run Try.prog w = .ok (.slice (some ⟨w.heap.size, 0, none⟩) n n) (w.alloc (.cells (madeCells #[.slice none 0 0] n) 147)) := by
  obtain ⟨i0, hi, hz0, hz1, hz2⟩ := info_parts tinfo78
  have h := run_make (P := Try.prog) w 27 147 i0 (.slice none 0 0) Try.underlying27 hi hz0 .i64 .i64 (n : Int) (n : Int) (by omega) (Int.le_refl _) (by rw [hz2]; omega) (by omega)
  simpa [hz1, Value.cells] using h
/-- Lists that are copied one after another into a new list at z. -/
structure Cpy (w wr : World) (z : Nat) (D : PD) (F : Nat → Nat) (j : Nat) : Prop where
  row : Row wr z D.n (fun i => if i < j then .slice (some ⟨F i, 0, none⟩) (D.len i) (D.len i) else .slice none 0 0)
  inn : ∀ i, i < j → Row wr (F i) (D.len i * 2) (uc (D.p i) (D.m i)) ∧ z < F i ∧ F i < wr.heap.size
  dis : ∀ i i', i < j → i' < j → i ≠ i' → F i ≠ F i'
  blw : Blw w wr
  lo : w.heap.size ≤ z
theorem Cpy.next {w wr w1 : World} {z : Nat} {D : PD} {F : Nat → Nat} {j : Nat} (h : Cpy w wr z D F j) (hj : j < D.n) (hb : Blw wr w1) (hr : Row w1 wr.heap.size (D.len j * 2) (uc (D.p j) (D.m j))) :
    Cpy w (w1.setCell ⟨z, j, none⟩ (.slice (some ⟨wr.heap.size, 0, none⟩) (D.len j) (D.len j))) z D (fun i => if i = j then wr.heap.size else F i) (j + 1) := by
  have hz := h.row.lt
  have hs := hb.size
  have hl := hr.lt
  have ms : Mod (fun x => x = z) w1 (w1.setCell ⟨z, j, none⟩ (.slice (some ⟨wr.heap.size, 0, none⟩) (D.len j) (D.len j))) := Mod.setCell (X := fun x => x = z) _ (p := ⟨z, j, none⟩) rfl _
  have hs2 := ms.size
  refine ⟨((h.row.blw hb).set j _).congr (fun i hi => ?_), fun i hi => ?_, fun i i' hi hi' hne => ?_, Mod.blw (h.blw.trans hb) ms (fun i hi => by have := h.lo; omega), h.lo⟩
  · by_cases e : i = j
    · subst e; simp
    · by_cases e2 : i < j
      · simp [e, e2, Nat.lt_succ_of_lt e2]
      · have e3 : ¬ i < j + 1 := by omega
        simp [e, e2, e3]
  · by_cases e : i = j
    · subst e
      simp only [if_pos]
      exact ⟨hr.mod ms (by omega), by omega, by omega⟩
    · obtain ⟨g1, g2, g3⟩ := h.inn i (by omega)
      simp only [if_neg e]
      exact ⟨(g1.blw hb).mod ms (by omega), g2, by omega⟩
  · by_cases e : i = j
    · have e' : ¬ i' = j := by omega
      have := (h.inn i' (by omega)).2.2
      simp only [if_pos e, if_neg e']; omega
    · by_cases e' : i' = j
      · have := (h.inn i (by omega)).2.2
        simp only [if_neg e, if_pos e']; omega
      · simp only [if_neg e, if_neg e']; exact h.dis i i' (by omega) (by omega) hne
theorem Cpy.own {w wr : World} {z : Nat} {D : PD} {F : Nat → Nat} (h : Cpy w wr z D F D.n) (hn : D.n ≤ 1048576) (hl : ∀ i, i < D.n → D.len i ≤ 1048576) : PSOwn (fun x => z ≤ x ∧ x < wr.heap.size) wr (some ⟨z, 0, none⟩) D := by
  refine ⟨by omega, fun _ => ⟨z, fun i => some ⟨F i, 0, none⟩, fun i => D.len i, fun i x => x = F i, rfl, ⟨h.row.congr (fun i hi => by rw [if_pos hi]), fun i hi => ⟨by have := hl i hi; omega, fun _ => ⟨F i, rfl, rfl, (h.inn i hi).1⟩⟩, fun i hi x hx => ?_, fun i j hi hj hne x hx hx' => h.dis i j hi hj hne (hx.symm.trans hx'), ⟨Nat.le_refl _, h.row.lt⟩⟩⟩⟩
  have := (h.inn i hi).2
  omega
theorem len_le {D : PD} {i : Nat} (hi : i < D.n) : D.len i ≤ D.tot := by
  have h1 : pre D.len (i + 1) ≤ pre D.len D.n := pre_mono D.len (by omega)
  have h2 : pre D.len (i + 1) = pre D.len i + D.len i := rfl
  show D.len i ≤ pre D.len D.n
  omega
set_option maxHeartbeats 1600000 in
theorem toSS_any (ao : Option Addr) (c0 : Nat) (D : PD) (Y : Nat → Prop) (w : World) (hS : D.n + D.tot ≤ 1048576) (h : PSAt Y w ao D) :
    Calls Try.prog 182 #[.slice ao D.n c0] w fun e w' => e = .returned (.slice (some ⟨w.heap.size, 0, none⟩) D.n D.n) ∧ PSOwn (fun x => w.heap.size ≤ x ∧ x < w'.heap.size) w' (some ⟨w.heap.size, 0, none⟩) D ∧ Blw w w' := by
  have hlen : ∀ i, i < D.n → D.len i ≤ 1048576 := fun i hi => by have := len_le hi; omega
  have HLN : Hid (∀ i, i < D.n → D.len i ≤ 1048576) := hlen
  have hn : D.n ≤ 1048576 := by omega
  have H : Hid (PSAt Y w ao D) := h
  have hmk := mkLists D.n hn
  clear h hlen hS
  obtain ⟨n, len, p, m⟩ := D
  dsimp only at hn hmk
  go_enter Try.func182, Try.ntmps182
  go_wp2
  clear hmk
  go_loopw [4] (fun i wr => ∃ j : Nat, j ≤ n ∧ i = .int .i64 j ∧ ∃ F, Cpy w wr w.heap.size ⟨n, len, p, m⟩ F j) (fun i _ => n - (intOf i).toNat)
  case atStart => exact ⟨0, Nat.zero_le _, rfl, fun _ => 0, ⟨(Row.made w (.slice none 0 0) n 147).congr (fun i hi => by rw [if_neg (by omega)]), fun i hi => absurd hi (Nat.not_lt_zero _), fun i i' hi => absurd hi (Nat.not_lt_zero _), (Blw.refl _).alloc _, Nat.le_refl _⟩⟩
  case round =>
    obtain ⟨j, hj, rfl, F, hC⟩ := hrel
    have HC : Hid (Cpy w wr w.heap.size ⟨n, len, p, m⟩ F j) := hC
    clear hC
    by_cases hlt : j < n
    · obtain ⟨b, o, a, c, e, -, g1, g2⟩ := H.out.2 j hlt
      subst e
      dsimp only at g1 g2
      replace g1 := HC.out.blw.cell g1
      have G2 : Hid (UndosAt Y wr a (len j) (p j) (m j)) := g2.blw HC.out.blw
      have hlj : len j ≤ 1048576 := HLN.out j hlt
      clear g2
      go_wp2_with fail
      refine (toUndoS_any _ _ (len j) (p j) (m j) Y _ hlj G2.out).mono ?_
      rintro e w1 ⟨rfl, hr, hb1⟩
      have HN : Hid (Cpy w (w1.setCell ⟨w.heap.size, j, none⟩ (.slice (some ⟨wr.heap.size, 0, none⟩) (len j) (len j))) w.heap.size ⟨n, len, p, m⟩ (fun i => if i = j then wr.heap.size else F i) (j + 1)) := HC.out.next (D := ⟨n, len, p, m⟩) hlt hb1 hr
      have rz := HC.out.row.blw hb1
      obtain ⟨vv, gv⟩ : ∃ v, w1.cell? ⟨w.heap.size, j, none⟩ = some v := ⟨_, rz.cell hlt⟩
      have gz := rz.frozen j
      clear HC G2 hr hb1 g1 rz
      go_wp2
      go_roundw
      case rel => exact ⟨j + 1, by omega, by go_num, _, HN.out⟩
      case measure => simp [intOf]; omega
    · obtain rfl : j = n := by omega
      have HO : Hid (PSOwn (fun x => w.heap.size ≤ x ∧ x < wr.heap.size) wr (some ⟨w.heap.size, 0, none⟩) ⟨j, len, p, m⟩) := Cpy.own (D := ⟨j, len, p, m⟩) HC.out hn HLN.out
      have HB : Hid (Blw w wr) := HC.out.blw
      clear HC
      go_wp2
      go_ret
      exact ⟨rfl, HO.out, HB.out⟩
set_option maxHeartbeats 800000 in
theorem szBook_any (b : BV) (B : BD) (Y : Nat → Prop) (w : World) (h : BookAt Y w b B) :
    Calls Try.prog 133 #[b.val B, .int .i64 1048576] w fun e w' => ∃ r : Int, e = .returned (.int .i64 r) ∧ Left 1048576 (B.n + (B.D.n + B.D.tot) : Nat) r ∧ Blw w w' := by
  have hn := h.c.1
  have HPS : Hid (PSAt Y w b.a2 B.D) := h.l
  clear h
  obtain ⟨n, c, ⟨k, len, lc, lw⟩⟩ := B
  dsimp only at hn
  go_enter Try.func133, Try.ntmps133
  go_wp2_with fail
  refine (szIntS_any _ _ _ _ _ hn (by omega) (by omega)).mono ?_
  rintro e w1 ⟨r, rfl, hr, hb1⟩
  have rb := (box2 w (.slice b.a1 n b.c1) (.slice b.a2 k b.c2) 89).blw hb1
  obtain ⟨p0, p1⟩ := get2 rb
  replace hb1 : Blw w w1 := ((Blw.refl _).alloc _).trans hb1
  clear rb
  rcases hr with rfl | ⟨g0, g1⟩
  · clear p0 p1
    go_wp2
    go_ret
    exact ⟨_, rfl, Or.inl rfl, hb1⟩
  · have hnn : ¬ r < 0 := by omega
    go_wp2_with fail
    clear p0 p1
    refine (szSS_any _ _ ⟨k, len, lc, lw⟩ Y _ _ (by omega) (by omega) (HPS.out.blw hb1)).mono ?_
    rintro e w2 ⟨r2, rfl, hr2, hb2⟩
    replace hb2 := hb1.trans hb2
    clear hb1 hnn
    rcases hr2 with rfl | ⟨g2, g3⟩
    · go_wp2
      go_ret
      exact ⟨_, rfl, Or.inl rfl, hb2⟩
    · have hnn : ¬ r2 < 0 := by omega
      go_wp2
      go_ret
      exact ⟨_, rfl, Or.inr ⟨g2, by omega⟩, hb2⟩
theorem set2_0 {w : World} {B : Nat} {a b : Value} (r : Row w B 2 (fun i => if i = 0 then a else b)) (u : Value) : Row (w.setCell ⟨B, 0, none⟩ u) B 2 (fun i => if i = 0 then u else b) :=
  (r.set 0 u).congr fun i hi => by by_cases e : i = 0 <;> simp [e]
theorem set2_1 {w : World} {B : Nat} {a b : Value} (r : Row w B 2 (fun i => if i = 0 then a else b)) (u : Value) : Row (w.setCell ⟨B, 1, none⟩ u) B 2 (fun i => if i = 0 then a else u) :=
  (r.set 1 u).congr fun i hi => by
    by_cases e : i = 0
    · simp [e]
    · obtain rfl : i = 1 := by omega
      simp
/-- The blocks that toBook lays first. -/
theorem to_boxes (w : World) (x y : Value) :
    let w0 := ((w.alloc (.cells #[x, y] 89)).alloc (.cells #[.slice none 0 0, .slice none 0 0] 29)).alloc (.cells #[.slice none 0 0, .slice none 0 0] 29)
    Blw w w0 ∧ Row w0 w.heap.size 2 (fun i => if i = 0 then x else y) ∧ Row w0 (w.heap.size + 1) 2 (fun i => if i = 0 then .slice none 0 0 else .slice none 0 0) ∧ Row w0 (w.heap.size + 1 + 1) 2 (fun i => if i = 0 then .slice none 0 0 else .slice none 0 0) ∧ w0.heap.size = w.heap.size + 1 + 1 + 1 := by
  intro w0
  have b1 : Blw (w.alloc (.cells #[x, y] 89)) w0 := ((Blw.refl _).alloc _).alloc _
  have b2 : Blw ((w.alloc (.cells #[x, y] 89)).alloc (.cells #[.slice none 0 0, .slice none 0 0] 29)) w0 := (Blw.refl _).alloc _
  refine ⟨(((Blw.refl _).alloc _).alloc _).alloc _, (box2 w x y 89).blw b1, ?_, ?_, by simp [w0]⟩
  · have := (box2 (w.alloc (.cells #[x, y] 89)) (.slice none 0 0) (.slice none 0 0) 29).blw b2
    rw [World.size_alloc] at this
    exact this
  · have := box2 ((w.alloc (.cells #[x, y] 89)).alloc (.cells #[.slice none 0 0, .slice none 0 0] 29)) (.slice none 0 0) (.slice none 0 0) 29
    rw [World.size_alloc, World.size_alloc] at this
    exact this
theorem set2_blw {w w1 : World} {B : Nat} (h : Blw w w1) (hB : w.heap.size ≤ B) (v0 v1 : Value) : Blw w ((w1.setCell ⟨B, 0, none⟩ v0).setCell ⟨B, 1, none⟩ v1) := (h.setCell hB _).setCell hB _
theorem set2_mod {X : Nat → Prop} (w1 : World) {B : Nat} (hB : X B) (v0 v1 : Value) : Mod X w1 ((w1.setCell ⟨B, 0, none⟩ v0).setCell ⟨B, 1, none⟩ v1) :=
  (Mod.setCell _ (p := ⟨B, 0, none⟩) hB _).trans (Mod.setCell _ (p := ⟨B, 1, none⟩) hB _)
set_option maxHeartbeats 1600000 in
theorem toBook_any (b : BV) (B : BD) (Y : Nat → Prop) (w : World) (hS : B.n + (B.D.n + B.D.tot) ≤ 1048576) (h : BookAt Y w b B) :
    Calls Try.prog 134 #[b.val B] w fun e w' => ∃ b' : BV, e = .returned (b'.val B) ∧ BookOwn (fun x => w.heap.size ≤ x ∧ x < w'.heap.size) w' b' B ∧ Blw w w' := by
  obtain ⟨n, c, ⟨k, len, lc, lw⟩⟩ := B
  dsimp only at hS
  have HC : Hid (IntsAt Y w b.a1 n c) := h.c
  have HL : Hid (PSAt Y w b.a2 ⟨k, len, lc, lw⟩) := h.l
  clear h
  go_enter Try.func134, Try.ntmps134
  go_wp2_with fail
  obtain ⟨hb0, r0, r1, r2, hz⟩ := to_boxes w (.slice b.a1 n b.c1) (.slice b.a2 k b.c2)
  revert hb0 r0 r1 r2 hz
  generalize ((w.alloc (.cells #[.slice b.a1 n b.c1, .slice b.a2 k b.c2] 89)).alloc (.cells #[.slice none 0 0, .slice none 0 0] 29)).alloc (.cells #[.slice none 0 0, .slice none 0 0] 29) = w0
  intro hb0 r0 r1 r2 hz
  refine (toIntS_any _ _ n c Y _ (by omega) (HC.out.blw hb0)).mono ?_
  rintro e w1 ⟨rfl, hi, hb1⟩
  rw [hz] at hi
  replace r0 := r0.blw hb1
  replace r1 := r1.blw hb1
  replace r2 := r2.blw hb1
  have hs0 := set2_0 r2 (.slice (some ⟨w.heap.size + 1 + 1 + 1, 0, none⟩) n n)
  have hm0 : Mod (fun x => x = w.heap.size + 1 + 1) w1 (w1.setCell ⟨w.heap.size + 1 + 1, 0, none⟩ (.slice (some ⟨w.heap.size + 1 + 1 + 1, 0, none⟩) n n)) := Mod.setCell (X := fun x => x = w.heap.size + 1 + 1) _ (p := ⟨w.heap.size + 1 + 1, 0, none⟩) rfl _
  have r0' := r0.mod hm0 (by omega)
  have hi' := hi.mod hm0 (by omega)
  have r1' := r1.mod hm0 (by omega)
  have hb2 : Blw w (w1.setCell ⟨w.heap.size + 1 + 1, 0, none⟩ (.slice (some ⟨w.heap.size + 1 + 1 + 1, 0, none⟩) n n)) := Mod.blw (hb0.trans hb1) hm0 (fun i hi => by omega)
  obtain ⟨p0, p1⟩ := get2 r2
  have q0 := r2.frozen 0
  obtain ⟨s0, s1⟩ := get2 r0'
  clear r2 r0 hm0 r1 hi
  go_wp2_with fail
  clear p0 p1 q0
  revert hs0 r0' hi' r1' hb2 s0 s1
  generalize w1.setCell ⟨w.heap.size + 1 + 1, 0, none⟩ (.slice (some ⟨w.heap.size + 1 + 1 + 1, 0, none⟩) n n) = w2
  intro hs0 r0' hi' r1' hb2 s0 s1
  clear s0 s1 r0'
  have hz2 := hi'.lt
  refine (toSS_any _ _ ⟨k, len, lc, lw⟩ Y _ (by show k + _ ≤ _; omega) (HL.out.blw hb2)).mono ?_
  rintro e w3 ⟨rfl, hu, hb3⟩
  have hz3 := hb3.size
  replace hs0 := hs0.blw hb3
  replace hi' := hi'.blw hb3
  replace r1' := r1'.blw hb3
  replace hb2 := hb2.trans hb3
  clear hb3 hb1 hb0 hz HC HL
  obtain ⟨p0, p1⟩ := get2 hs0
  obtain ⟨t0, t1⟩ := get2 r1'
  have f1 := hs0.frozen 1
  have g0 := r1'.frozen 0
  have g1 := r1'.frozen 1
  have HI : Hid (Row w3 (w.heap.size + 1 + 1 + 1) n (fun t => .int .i64 (c t))) := hi'
  have HU : Hid (PSOwn (fun x => w2.heap.size ≤ x ∧ x < w3.heap.size) w3 (some ⟨w2.heap.size, 0, none⟩) ⟨k, len, lc, lw⟩) := hu
  have HB : Hid (Blw w w3) := hb2
  have HN : Hid (w.heap.size + 1 + 1 + 1 < w2.heap.size) := hz2
  have HN3 : Hid (w2.heap.size ≤ w3.heap.size) := hz3
  clear hi' hu hb2 hz2 hz3 hs0 r1'
  generalize w2.heap.size = z2 at *
  go_wp2
  refine bodyPost_ret (v := .agg #[.slice (some ⟨w.heap.size + 1 + 1 + 1, 0, none⟩) n n, .slice (some ⟨z2, 0, none⟩) k k]) (by simp [results, Try.results134, go_sem, t0, t1]) rfl ?_
  have m1 : Mod (fun x => x = w.heap.size + 1 ∨ x = w.heap.size + 1 + 1) w3 (((w3.setCell ⟨w.heap.size + 1 + 1, 1, none⟩ (.slice (some ⟨z2, 0, none⟩) k k)).setCell ⟨w.heap.size + 1, 0, none⟩ (.slice (some ⟨w.heap.size + 1 + 1 + 1, 0, none⟩) n n)).setCell ⟨w.heap.size + 1, 1, none⟩ (.slice (some ⟨z2, 0, none⟩) k k)) :=
    (Mod.setCell _ (p := ⟨w.heap.size + 1 + 1, 1, none⟩) (Or.inr rfl) _).trans (set2_mod _ (Or.inl rfl) _ _)
  have h3 := HN.out
  have h4 := HN3.out
  have h5 := m1.size
  refine ⟨⟨some ⟨w.heap.size + 1 + 1 + 1, 0, none⟩, some ⟨z2, 0, none⟩, n, k⟩, rfl, ⟨fun x => x = w.heap.size + 1 + 1 + 1, fun x => z2 ≤ x ∧ x < w3.heap.size, fun x hx => ⟨⟨by omega, by omega⟩, by omega⟩, fun x hx => ⟨by omega, by omega⟩, ⟨by show n ≤ _; omega, fun _ => ⟨_, rfl, rfl, HI.out.mod m1 (by omega)⟩⟩, HU.out.mod m1 (fun x hx e => by omega)⟩, Mod.blw HB.out m1 (fun i hi => by omega)⟩
set_option maxHeartbeats 1600000 in
theorem eqBook_same (b b' : BV) (B : BD) {X Y : Nat → Prop} (w : World) (h1 : BookAt X w b B) (h2 : BookAt Y w b' B) :
    Calls Try.prog 73 #[b.val B, b'.val B] w fun e w' => e = .returned (.bool true) ∧ Blw w w' := by
  obtain ⟨n, c, ⟨k, len, lc, lw⟩⟩ := B
  have H1 : Hid (BookAt X w b ⟨n, c, ⟨k, len, lc, lw⟩⟩) := h1
  have H2 : Hid (BookAt Y w b' ⟨n, c, ⟨k, len, lc, lw⟩⟩) := h2
  clear h1 h2
  go_enter Try.func73, Try.ntmps73
  go_wp2_with fail
  have rA := (box2 w (.slice b.a1 n b.c1) (.slice b.a2 k b.c2) 29).blw ((Blw.refl _).alloc (.cells #[.slice b'.a1 n b'.c1, .slice b'.a2 k b'.c2] 29))
  have rB := box2 (w.alloc (.cells #[.slice b.a1 n b.c1, .slice b.a2 k b.c2] 29)) (.slice b'.a1 n b'.c1) (.slice b'.a2 k b'.c2) 29
  rw [World.size_alloc] at rB
  have hb0 : Blw w ((w.alloc (.cells #[.slice b.a1 n b.c1, .slice b.a2 k b.c2] 29)).alloc (.cells #[.slice b'.a1 n b'.c1, .slice b'.a2 k b'.c2] 29)) := ((Blw.refl _).alloc _).alloc _
  refine (eqIntS_same _ _ _ _ n c _ (H1.out.c.blw hb0) (H2.out.c.blw hb0)).mono ?_
  rintro e w1 ⟨rfl, m, rfl⟩
  have hb1 := drewN_blw ((w.alloc (.cells #[.slice b.a1 n b.c1, .slice b.a2 k b.c2] 29)).alloc (.cells #[.slice b'.a1 n b'.c1, .slice b'.a2 k b'.c2] 29)) m
  replace rA := rA.blw hb1
  replace rB := rB.blw hb1
  replace hb1 := hb0.trans hb1
  clear hb0
  revert rA rB hb1
  generalize ((w.alloc (.cells #[.slice b.a1 n b.c1, .slice b.a2 k b.c2] 29)).alloc (.cells #[.slice b'.a1 n b'.c1, .slice b'.a2 k b'.c2] 29)).drewN m = w1
  intro rA rB hb1
  obtain ⟨p0, p1⟩ := get2 rA
  obtain ⟨q0, q1⟩ := get2 rB
  clear rA rB
  go_wp2_with fail
  clear p0 p1 q0 q1
  refine (eqSS_same _ _ _ _ ⟨k, len, lc, lw⟩ _ (H1.out.l.blw hb1) (H2.out.l.blw hb1)).mono ?_
  rintro e w2 ⟨rfl, hb2⟩
  replace hb2 := hb1.trans hb2
  clear hb1 H1 H2
  go_wp2
  go_ret
  exact ⟨rfl, hb2⟩
/-- What a book holds behind markBook. -/
def BD.marked (B : BD) (k : Int) : BD := ⟨B.n, fun i => k + i, B.D.marked (k + B.n)⟩
def BD.total (B : BD) : Nat := B.n + 2 * B.D.tot
set_option maxHeartbeats 1600000 in
theorem markBook_any (b : BV) (B : BD) (X : Nat → Prop) (w : World) (hS : B.n + (B.D.n + B.D.tot) ≤ 1048576) (hX : ∀ b, X b → b < w.heap.size) (h : BookOwn X w b B) :
    Calls Try.prog 75 #[b.val B, .int .i64 1] w fun e w' => e = .returned (.int .i64 (1 + B.total)) ∧ BookOwn X w' b (B.marked 1) ∧ Mod X w w' := by
  obtain ⟨n, c, ⟨k, len, lc, lw⟩⟩ := B
  dsimp only at hS
  obtain ⟨X1, X2, d1, d2, hc, hl⟩ := h.ex
  have HC : Hid (IntsOwn X1 w b.a1 n c) := hc
  have HL : Hid (PSOwn X2 w b.a2 ⟨k, len, lc, lw⟩) := hl
  clear h hc hl
  go_enter Try.func75, Try.ntmps75
  go_wp2_with fail
  have hb0 : Blw w (w.alloc (.cells #[.slice b.a1 n b.c1, .slice b.a2 k b.c2] 29)) := (Blw.refl _).alloc _
  have rA := box2 w (.slice b.a1 n b.c1) (.slice b.a2 k b.c2) 29
  refine (markIntS_any _ _ n c X1 1 _ (by omega) (by omega) (HC.out.blw hb0)).mono ?_
  rintro e w1 ⟨rfl, hc1, hm1⟩
  replace rA := rA.mod hm1 (fun hh => by have := hX _ (d1 _ hh.1).1; omega)
  obtain ⟨p0, p1⟩ := get2 rA
  have HM : Hid (Mod X w w1) := (hb0.mod X).trans (hm1.mono (fun x hx => (d1 x hx.1).1))
  have HL1 : Hid (PSOwn X2 w1 b.a2 ⟨k, len, lc, lw⟩) := (HL.out.blw hb0).mod hm1 (fun x hx hh => (d1 x hh.1).2 hx)
  have HC1 : Hid (IntsOwn X1 w1 b.a1 n (fun i => 1 + i)) := hc1
  clear hb0 rA hc1 hm1 HC HL
  go_wp2_with fail
  clear p0 p1
  refine (markSS_any _ _ ⟨k, len, lc, lw⟩ X2 _ _ (by omega) (by simp only [PD.tot] at *; omega) HL1.out).mono ?_
  rintro e w2 ⟨rfl, hl2, hm2⟩
  have HC2 : Hid (IntsOwn X1 w2 b.a1 n (fun i => 1 + i)) := HC1.out.mod hm2 (fun x hx hh => (d1 x hx).2 hh)
  have HL2 : Hid (PSOwn X2 w2 b.a2 (PD.marked ⟨k, len, lc, lw⟩ (1 + n))) := hl2
  have HM2 : Hid (Mod X w w2) := HM.out.trans (hm2.mono d2)
  clear HL1 HC1 HM hl2 hm2
  go_wp2
  go_ret
  refine ⟨ret_int (by simp [BD.total]; omega), ⟨X1, X2, d1, d2, HC2.out, HL2.out⟩, HM2.out⟩
set_option maxHeartbeats 1600000 in
theorem heldBook_any (b : BV) (B : BD) (X : Nat → Prop) (w : World) (hS : B.n + (B.D.n + B.D.tot) ≤ 1048576) (h : BookOwn X w b (B.marked 1)) :
    Calls Try.prog 76 #[b.val B, .int .i64 1] w fun e w' => e = .returned (.int .i64 (1 + B.total)) ∧ Blw w w' := by
  obtain ⟨n, c, ⟨k, len, lc, lw⟩⟩ := B
  dsimp only at hS
  obtain ⟨X1, X2, d1, d2, hc, hl⟩ := h.ex
  have HC : Hid (IntsOwn X1 w b.a1 n (fun i => 1 + i)) := hc
  have HL : Hid (PSOwn X2 w b.a2 (PD.marked ⟨k, len, lc, lw⟩ (1 + n))) := hl
  clear h hc hl
  go_enter Try.func76, Try.ntmps76
  go_wp2_with fail
  have hb0 : Blw w (w.alloc (.cells #[.slice b.a1 n b.c1, .slice b.a2 k b.c2] 29)) := (Blw.refl _).alloc _
  have rA := box2 w (.slice b.a1 n b.c1) (.slice b.a2 k b.c2) 29
  refine (heldIntS_any _ _ n X1 1 _ (by omega) (by omega) (HC.out.blw hb0).at).mono ?_
  rintro e w1 ⟨rfl, hb1⟩
  replace rA := rA.blw hb1
  replace hb1 := hb0.trans hb1
  obtain ⟨p0, p1⟩ := get2 rA
  have k1 : ¬ (1 + (n : Int) < 0) := by omega
  clear hb0 rA HC
  go_wp2_with fail
  clear p0 p1
  refine (heldSS_any _ _ ⟨k, len, lc, lw⟩ X2 _ _ (by omega) (by simp only [PD.tot] at *; omega) (HL.out.blw hb1)).mono ?_
  rintro e w2 ⟨rfl, hb2⟩
  replace hb2 := hb1.trans hb2
  clear hb1 HL k1
  have k2 : ¬ (1 + (n : Int) + 2 * (pre len k : Nat) < 0) := by omega
  go_wp2
  go_ret
  exact ⟨ret_int (by simp [BD.total]; omega), hb2⟩
end Go.Proofs.Ytjplodenflkghaa
