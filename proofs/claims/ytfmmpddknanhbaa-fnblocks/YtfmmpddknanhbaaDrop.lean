/- DropOwner: the model's and the program's. -/
import Derived.Test.YtfmmpddknanhbaaMay
namespace Go.Proofs.Ytfmmpddknanhbaa
open Go.RowKit
set_option linter.unusedSimpArgs false
set_option linter.unusedVariables false
def resN (ok : Prop) (V : BD) (v : Int) (R : BD) (x : Int) (r : Bool) : Prop := (ok ∧ R = V ∧ x = v ∧ r = true) ∨ (¬ ok ∧ R = BD.zero ∧ x = 0 ∧ r = false)
theorem resN_same {ok : Prop} {V R R' : BD} {v x x' : Int} {b c : Bool} (h : resN ok V v R x b) (k : resN ok V v R' x' c) : R = R' ∧ x = x' ∧ b = c := by
  rcases h with ⟨g, rfl, rfl, rfl⟩ | ⟨g, rfl, rfl, rfl⟩
  · rcases k with ⟨_, rfl, rfl, rfl⟩ | ⟨g', _⟩
    · exact ⟨rfl, rfl, rfl⟩
    · exact absurd g g'
  · rcases k with ⟨g', _⟩ | ⟨_, rfl, rfl, rfl⟩
    · exact absurd g' g
    · exact ⟨rfl, rfl, rfl⟩
def GivesN (out : BD → Int → Bool → Prop) (w : World) : Ending → World → Prop := fun e w' =>
  ∃ (b : BV) (R : BD) (x : Int) (r : Bool), e = .returned (.tuple #[b.val R, .int .i64 x, .bool r]) ∧ out R x r ∧ R.n + R.k ≤ 1048576 ∧ BookOwn (fun x => w.heap.size ≤ x ∧ x < w'.heap.size) w' b R ∧ Blw w w'
theorem zero_givesN {out : BD → Int → Bool → Prop} {w W : World} {z : Nat} (hz : w.heap.size ≤ z) (ho : out BD.zero 0 false) (hb : Blw w W) :
    GivesN out w (.returned (.tuple #[BV.zero.val BD.zero, .int .i64 0, .bool false])) ((W.setCell ⟨z, 0, none⟩ (.slice none 0 0)).setCell ⟨z, 1, none⟩ (.slice none 0 0)) :=
  ⟨BV.zero, BD.zero, 0, false, rfl, ho, by decide, BookOwn.zero _ _, set2_blw hb hz _ _⟩
theorem fin_givesN {out : BD → Int → Bool → Prop} {X : Nat → Prop} {w W : World} {b : BV} {R : BD} {v : Int} {z : Nat} (ho : out R v true) (hs : R.n + R.k ≤ 1048576) (hb : Blw w W) (hz : w.heap.size ≤ z) (own : BookOwn X W b R) (hX : ∀ x, X x → w.heap.size ≤ x ∧ x ≠ z ∧ x < W.heap.size) :
    GivesN out w (.returned (.tuple #[b.val R, .int .i64 v, .bool true])) ((W.setCell ⟨z, 0, none⟩ (.slice b.a1 R.n b.c1)).setCell ⟨z, 1, none⟩ (.slice b.a2 R.k b.c2)) := by
  have hm := set2_mod (X := fun x => x = z) W rfl (.slice b.a1 R.n b.c1) (.slice b.a2 R.k b.c2)
  have := hm.size
  exact ⟨b, R, v, true, rfl, ho, hs, (own.mod hm (fun x hx e => (hX x hx).2.1 e)).mono (fun x hx => by have := hX x hx; omega), set2_blw hb hz _ _⟩
theorem put_blw {w w1 : World} {B a b : Nat} (h : Blw w w1) (hB : w.heap.size ≤ B) (v0 v1 : Value) : Blw w ((w1.setCell ⟨B, a, none⟩ v0).setCell ⟨B, b, none⟩ v1) := (h.setCell hB _).setCell hB _
def dropC (c : Nat → Int) (o : Int) : Nat → Int := fun i => if c i = o then 0 else c i
def dropL (c l : Nat → Int) (o : Int) : Nat → Int := fun i => if c i = o then 0 else if l i = o then 0 else l i
abbrev dropped (B : BD) (o : Int) : BD := ⟨16, dropC B.c o, 16, dropL B.c B.l o⟩
abbrev had (B : BD) (o : Int) : Int := ((pk (ownP B.c o) 16).length : Nat)
set_option maxHeartbeats 800000 in
theorem without_any (c l : Nat → Int) (i : Nat) (o : Int) (w : World) : Calls Try.prog 79 #[.agg #[.int .i64 (c i), .int .i64 (l i)], .int .i64 o] w fun e w' => e = .returned (.agg #[.int .i64 (dropC c o i), .int .i64 (dropL c l o i)]) ∧ Blw w w' := by
  have hb0 : Blw w ((w.alloc (.cells #[.int .i64 (c i), .int .i64 (l i)] 78)).alloc (.cells #[.int .i64 0, .int .i64 0] 78)) := ((Blw.refl _).alloc _).alloc _
  obtain ⟨p0, p1⟩ := get2 ((box2 w (.int .i64 (c i)) (.int .i64 (l i)) 78).blw ((Blw.refl _).alloc (.cells #[.int .i64 0, .int .i64 0] 78)))
  have r1 := box2 (w.alloc (.cells #[.int .i64 (c i), .int .i64 (l i)] 78)) (.int .i64 0) (.int .i64 0) 78
  rw [World.size_alloc] at r1
  obtain ⟨t0, t1⟩ := get2 r1
  have f0 := r1.frozen 0
  have f1 := r1.frozen 1
  clear r1
  by_cases h1 : c i = o
  · have d1 : (o == c i) = true := by simp [h1]
    have E : Hid (dropC c o i = 0 ∧ dropL c l o i = 0) := by constructor <;> simp [dropC, dropL, h1]
    clear h1
    go_enter Try.func79, Try.ntmps79
    go_wp2
    refine bodyPost_ret (v := .agg #[.int .i64 0, .int .i64 0]) (by simp [results, Try.results79, go_sem, t0, t1]) rfl ⟨by rw [E.out.1, E.out.2], ?_⟩
    first | exact hb0 | exact ((Blw.refl _).alloc _).alloc _
  · have d1 : (o == c i) = false := by simp; exact fun e => h1 e.symm
    by_cases h2 : l i = o
    · have d2 : (o == l i) = true := by simp [h2]
      have E : Hid (dropC c o i = c i ∧ dropL c l o i = 0) := by constructor <;> simp [dropC, dropL, h1, h2]
      clear h1 h2
      go_enter Try.func79, Try.ntmps79
      go_wp2
      refine bodyPost_ret (v := .agg #[.int .i64 (c i), .int .i64 0]) (by simp [results, Try.results79, go_sem, t0, t1]) rfl ⟨by rw [E.out.1, E.out.2], ?_⟩
      exact ((Blw.refl _).alloc _).alloc _
    · have d2 : (o == l i) = false := by simp; exact fun e => h2 e.symm
      have E : Hid (dropC c o i = c i ∧ dropL c l o i = l i) := by constructor <;> simp [dropC, dropL, h1, h2]
      clear h1 h2
      go_enter Try.func79, Try.ntmps79
      go_wp2
      refine bodyPost_ret (v := .agg #[.int .i64 (c i), .int .i64 (l i)]) (by simp [results, Try.results79, go_sem, t0, t1]) rfl ⟨by rw [E.out.1, E.out.2], ?_⟩
      exact ((Blw.refl _).alloc _).alloc _
set_option maxHeartbeats 800000 in
theorem dropF_any (c l : Nat → Int) (i : Nat) (o : Int) (pb : Nat) (w : World) (hp : w.cell? ⟨pb, 0, none⟩ = some (.int .i64 o)) : Calls Try.prog 78 #[.agg #[.int .i64 (c i), .int .i64 (l i)], .pointer (some ⟨pb, 0, none⟩)] w fun e w' => e = .returned (.agg #[.int .i64 (dropC c o i), .int .i64 (dropL c l o i)]) ∧ Blw w w' := by
  have hb0 : Blw w ((w.alloc (.cells #[.int .i64 (c i), .int .i64 (l i)] 78)).alloc (.cells #[.int .i64 0, .int .i64 0] 78)) := ((Blw.refl _).alloc _).alloc _
  obtain ⟨p0, p1⟩ := get2 ((box2 w (.int .i64 (c i)) (.int .i64 (l i)) 78).blw ((Blw.refl _).alloc (.cells #[.int .i64 0, .int .i64 0] 78)))
  have r1 := box2 (w.alloc (.cells #[.int .i64 (c i), .int .i64 (l i)] 78)) (.int .i64 0) (.int .i64 0) 78
  rw [World.size_alloc] at r1
  have hp' := hb0.cell hp
  go_enter Try.func78, Try.ntmps78
  go_wp2_with fail
  clear p0 p1 hp'
  refine (without_any c l i o _).mono ?_
  rintro e w1 ⟨rfl, hb1⟩
  replace r1 := r1.blw hb1
  have HB : Hid (Blw w w1) := hb0.trans hb1
  obtain ⟨t0, t1⟩ := get2 r1
  have f0 := r1.frozen 0
  have f1 := r1.frozen 1
  clear r1 hb0 hb1
  go_wp2
  exact bodyPost_ret (v := .agg #[.int .i64 (dropC c o i), .int .i64 (dropL c l o i)]) (by simp [results, Try.results78, go_sem, t0, t1]) rfl ⟨rfl, put_blw HB.out (by omega) _ _⟩
theorem mkHeld68 (w : World) : (Instr.makeSlice 68 (.int .i64 16) (.int .i64 16)).run Try.prog w = .ok (.slice (some ⟨w.heap.size, 0, none⟩) 16 16) (w.alloc (.cells (madeCells #[.int .i64 0, .int .i64 0] (16 * 2)) 78)) := by
  obtain ⟨i0, hi, hz0, hz1, hz2⟩ := info_parts hinfo78
  have h := run_make (P := Try.prog) w 68 78 i0 (.agg #[.int .i64 0, .int .i64 0]) Try.underlying68 hi hz0 .i64 .i64 (16 : Int) (16 : Int) (by omega) (Int.le_refl _) (by rw [hz2]; omega) (by omega)
  simpa [hz1, Value.cells] using h
theorem put_next {w : World} {H j : Nat} {f g : Nat → Int} (r : Row w H (16 * 2) (uc (cutF j f) (cutF j g))) :
    Row ((w.setCell ⟨H, j * 2, none⟩ (.int .i64 (f j))).setCell ⟨H, j * 2 + 1, none⟩ (.int .i64 (g j))) H (16 * 2) (uc (cutF (j + 1) f) (cutF (j + 1) g)) :=
  (put_pair r j (f j) (g j)).congr (fun t ht => by
    have e : ∀ f : Nat → Int, (if t / 2 = j then f j else cutF j f (t / 2)) = cutF (j + 1) f (t / 2) := fun f => by
      unfold cutF
      by_cases e1 : t / 2 = j
      · rw [if_pos e1, e1, if_pos (by omega)]
      · rw [if_neg e1]
        by_cases e2 : t / 2 < j
        · rw [if_pos e2, if_pos (by omega)]
        · rw [if_neg e2, if_neg (by omega)]
    simp only [uc, e])
set_option maxRecDepth 10000 in
set_option maxHeartbeats 1600000 in
theorem eachDrop_any (z pb : Nat) (c l : Nat → Int) (o : Int) (w : World) (h : Row w z (16 * 2) (uc c l)) (hp : w.cell? ⟨pb, 0, none⟩ = some (.int .i64 o)) :
    Calls Try.prog 77 #[.slice (some ⟨z, 0, none⟩) 16 16, .func (.func 78) #[] #[.pointer (some ⟨pb, 0, none⟩)]] w fun e w' => ∃ y, e = .returned (.slice (some ⟨y, 0, none⟩) 16 16) ∧ Row w' y (16 * 2) (uc (dropC c o) (dropL c l o)) ∧ w.heap.size ≤ y ∧ Blw w w' := by
  have H : Hid (Row w z (16 * 2) (uc c l)) := h
  have HP : Hid (w.cell? ⟨pb, 0, none⟩ = some (.int .i64 o)) := hp
  have hmk := mkHeld68 w
  clear h hp
  go_enter Try.func77, Try.ntmps77
  go_wp2_with fail
  clear hmk
  go_loopw [13] (fun i wr => ∃ j : Nat, j ≤ 16 ∧ i = .int .i64 j ∧ Row wr w.heap.size (16 * 2) (uc (cutF j (dropC c o)) (cutF j (dropL c l o))) ∧ Blw w wr) (fun i _ => 16 - (intOf i).toNat)
  case atStart => exact ⟨0, by omega, rfl, (Row.made2 w (.int .i64 0) 16 78).congr (fun i _ => by simp [uc, cutF]), (Blw.refl _).alloc _⟩
  case round =>
    obtain ⟨j, hj, rfl, hr, hb⟩ := hrel
    by_cases hlt : j < 16
    · have hlt' : (j : Int) < 16 := by omega
      obtain ⟨q0, q1⟩ := undo_get (H.out.blw hb) hlt
      have HR : Hid (Row wr w.heap.size (16 * 2) (uc (cutF j (dropC c o)) (cutF j (dropL c l o)))) := hr
      have HB : Hid (Blw w wr) := hb
      obtain ⟨s0, s1⟩ := get2 (box2 wr (.int .i64 (c j)) (.int .i64 (l j)) 78)
      have hA : Blw wr (wr.alloc (.cells #[.int .i64 (c j), .int .i64 (l j)] 78)) := (Blw.refl _).alloc _
      clear hr hb
      go_wp2_with fail
      clear q0 q1 s0 s1
      refine (dropF_any c l j o pb _ ((HB.out.trans hA).cell HP.out)).mono ?_
      rintro e w1 ⟨rfl, hb1⟩
      have hb2 : Blw wr w1 := hA.trans hb1
      have hr := HR.out.blw hb2
      obtain ⟨g0, g1⟩ := undo_get hr hlt
      have f0 := hr.frozen (j * 2)
      have f1 := hr.frozen (j * 2 + 1)
      have ST : Hid _ := put_next hr
      have SB : Hid (Blw w ((w1.setCell ⟨w.heap.size, j * 2, none⟩ (.int .i64 (dropC c o j))).setCell ⟨w.heap.size, j * 2 + 1, none⟩ (.int .i64 (dropL c l o j)))) := put_blw (HB.out.trans hb2) (Nat.le_refl _) _ _
      clear hr hb2 hb1 hA HR HB
      go_wp2
      go_roundw
      case rel => exact ⟨j + 1, by omega, by go_num, ST.out, SB.out⟩
      case measure => simp [intOf]; omega
    · obtain rfl : j = 16 := by omega
      go_wp2
      go_ret
      exact ⟨_, rfl, hr.congr (fun i hi => by
        have e2 : i / 2 < 16 := by omega
        simp [uc, cutF, e2]), Nat.le_refl _, hb⟩
set_option maxRecDepth 10000 in
set_option maxHeartbeats 3200000 in
theorem implDrop_any (b : BV) (B : BD) (o : Int) (Y : Nat → Prop) (w : World) (h : BookAt Y w b B) (hY : ∀ x, Y x → x < w.heap.size) :
    Calls Try.prog 34 #[b.val B, .int .i64 o] w (GivesN (resN (muOK B o) (dropped B o) (had B o)) w) := by
  have hb0 : Blw w (((w.alloc (.cells #[.slice b.a1 B.n b.c1, .slice b.a2 B.k b.c2] 25)).alloc (.cells #[.int .i64 o] 3)).alloc (.cells #[.slice none 0 0, .slice none 0 0] 25)) := (((Blw.refl _).alloc _).alloc _).alloc _
  have HA : Hid (BookAt Y (((w.alloc (.cells #[.slice b.a1 B.n b.c1, .slice b.a2 B.k b.c2] 25)).alloc (.cells #[.int .i64 o] 3)).alloc (.cells #[.slice none 0 0, .slice none 0 0] 25)) b B) := h.blw hb0
  have hp : (((w.alloc (.cells #[.slice b.a1 B.n b.c1, .slice b.a2 B.k b.c2] 25)).alloc (.cells #[.int .i64 o] 3)).alloc (.cells #[.slice none 0 0, .slice none 0 0] 25)).cell? ⟨w.heap.size + 1, 0, none⟩ = some (.int .i64 o) := by
    have := (Row.of_cells (heap_alloc_new (w.alloc (.cells #[.slice b.a1 B.n b.c1, .slice b.a2 B.k b.c2] 25)) (.cells #[.int .i64 o] 3)) (fun _ => .int .i64 o) (fun i hi => by
      obtain rfl : i = 0 := by simpa using hi
      rfl)).cell (i := 0) (by simp)
    rw [World.size_alloc] at this
    exact ((Blw.refl _).alloc _).cell this
  have r1 := box2 ((w.alloc (.cells #[.slice b.a1 B.n b.c1, .slice b.a2 B.k b.c2] 25)).alloc (.cells #[.int .i64 o] 3)) (.slice none 0 0) (.slice none 0 0) 25
  rw [World.size_alloc, World.size_alloc] at r1
  have hsz : (((w.alloc (.cells #[.slice b.a1 B.n b.c1, .slice b.a2 B.k b.c2] 25)).alloc (.cells #[.int .i64 o] 3)).alloc (.cells #[.slice none 0 0, .slice none 0 0] 25)).heap.size = w.heap.size + 1 + 1 + 1 := by simp
  clear h
  go_enter Try.func34, Try.ntmps34
  go_wp2_with fail
  refine (hold_any b B Y _ HA.out (fun x hx => by have := hY x hx; simp; omega)).mono ?_
  rintro e w1 ⟨h1, hb1⟩
  have HB : Hid (Blw w w1) := hb0.trans hb1
  replace hp := hb1.cell hp
  have HP : Hid (w1.cell? ⟨w.heap.size + 1, 0, none⟩ = some (.int .i64 o)) := hp
  have HR1 : Hid (Row w1 (w.heap.size + 1 + 1) 2 (fun i => if i = 0 then .slice none 0 0 else .slice none 0 0)) := r1.blw hb1
  obtain ⟨t0, t1⟩ := get2 HR1.out
  have f0 := HR1.out.frozen 0
  have f1 := HR1.out.frozen 1
  clear hb0 HA hb1 r1
  rcases h1 with ⟨z, hg, rfl, hrow, hlo⟩ | ⟨hg, rfl⟩
  case inr =>
    have HG : Hid (¬ B.Good) := hg
    clear hg
    go_wp2
    exact bodyPost_ret (v := .tuple #[BV.zero.val BD.zero, .int .i64 0, .bool false]) (by simp [results, Try.results34, go_sem, t0, t1]) rfl (zero_givesN (by omega) (Or.inr ⟨fun g => HG.out g.1, rfl, rfl, rfl⟩) HB.out)
  have HG : Hid B.Good := hg
  have HRW : Hid (Row w1 z (16 * 2) (uc B.c B.l)) := hrow
  clear hg hrow hlo hsz
  go_wp2_with fail
  refine (isOwner_any o _).mono ?_
  rintro e w1 ⟨r, rfl, hr, rfl⟩
  have HT : Hid (r = true ↔ whoOK o) := hr
  clear hr
  cases r
  · have HN : Hid (¬ whoOK o) := fun g => by have := HT.out.2 g; simp at this
    clear HT
    go_wp2
    exact bodyPost_ret (v := .tuple #[BV.zero.val BD.zero, .int .i64 0, .bool false]) (by simp [results, Try.results34, go_sem, t0, t1]) rfl (zero_givesN (by omega) (Or.inr ⟨fun g => HN.out g.2, rfl, rfl, rfl⟩) HB.out)
  have H1 : Hid (whoOK o) := HT.out.1 (by first | rfl | trivial)
  clear HT
  clear hp t0 t1 f0 f1
  have HZ : Hid (w.heap.size + 1 + 1 < w1.heap.size) := HR1.out.lt
  go_wp2_with fail
  refine (placesOwn_any z (w.heap.size + 1) B.c B.l o _ HRW.out HP.out).mono ?_
  rintro e w2 ⟨v, rfl, hG⟩
  have hle := pk_len (ownP B.c o) 16
  obtain ⟨ao, cap, rfl, -⟩ := hG.own (by omega)
  replace HRW : Hid (Row w2 z (16 * 2) (uc B.c B.l)) := HRW.out.blw hG.blw
  replace HP : Hid (w2.cell? ⟨w.heap.size + 1, 0, none⟩ = some (.int .i64 o)) := hG.blw.cell HP.out
  replace HR1 : Hid (Row w2 (w.heap.size + 1 + 1) 2 (fun i => if i = 0 then .slice none 0 0 else .slice none 0 0)) := HR1.out.blw hG.blw
  replace HB : Hid (Blw w w2) := HB.out.trans hG.blw
  replace HZ : Hid (w.heap.size + 1 + 1 < w2.heap.size) := Nat.lt_of_lt_of_le HZ.out hG.blw.size
  clear hG hle
  go_wp2_with fail
  refine (eachDrop_any z (w.heap.size + 1) B.c B.l o _ HRW.out HP.out).mono ?_
  rintro e w3 ⟨y, rfl, hrow, hlo, hb3⟩
  replace HR1 : Hid (Row w3 (w.heap.size + 1 + 1) 2 (fun i => if i = 0 then .slice none 0 0 else .slice none 0 0)) := HR1.out.blw hb3
  replace HB : Hid (Blw w w3) := HB.out.trans hb3
  replace HZ : Hid (w.heap.size + 1 + 1 < w3.heap.size) := Nat.lt_of_lt_of_le HZ.out hb3.size
  have HRW2 : Hid (Row w3 y (16 * 2) (uc (dropC B.c o) (dropL B.c B.l o))) := hrow
  clear hrow hb3 HRW HP hlo
  go_wp2_with fail
  refine (giveOut_any y (dropC B.c o) (dropL B.c B.l o) _ HRW2.out).mono ?_
  rintro e w4 ⟨b', rfl, own, hb4⟩
  have r3 := HR1.out.blw hb4
  obtain ⟨t0, t1⟩ := get2 r3
  have f0 := r3.frozen 0
  have f1 := r3.frozen 1
  have hz := HZ.out
  have FIN : Hid _ := fin_givesN (z := w.heap.size + 1 + 1) (out := resN (muOK B o) (dropped B o) (had B o)) (w := w) (R := dropped B o) (v := had B o) (Or.inl ⟨⟨HG.out, H1.out⟩, rfl, rfl, rfl⟩) (by show 16 + 16 ≤ _; omega) (HB.out.trans hb4) (by omega) own (fun x hx => ⟨by omega, by omega, hx.2⟩)
  clear own hb4 r3 HRW2 hz HZ HR1 HB
  go_wp2
  exact bodyPost_ret (v := .tuple #[b'.val (dropped B o), .int .i64 (had B o), .bool true]) (by simp [results, Try.results34, go_sem, t0, t1]) rfl FIN.out
theorem own_rows {X : Nat → Prop} {w : World} {b : BV} {c l : Nat → Int} (h : BookOwn X w b ⟨16, c, 16, l⟩) : ∃ y1 y2, b.a1 = some ⟨y1, 0, none⟩ ∧ b.a2 = some ⟨y2, 0, none⟩ ∧ X y1 ∧ X y2 ∧ y1 ≠ y2 ∧ Row w y1 16 (fun i => .int .i64 (c i)) ∧ Row w y2 16 (fun i => .int .i64 (l i)) := by
  obtain ⟨X1, X2, d1, d2, hc, hl⟩ := h.ex
  obtain ⟨y1, h1, e1, r1⟩ := hc.2 (by show 0 < 16; omega)
  obtain ⟨y2, h2, e2, r2⟩ := hl.2 (by show 0 < 16; omega)
  exact ⟨y1, y2, e1, e2, (d1 y1 h1).1, d2 y2 h2, fun e => (d1 y1 h1).2 (e ▸ h2), r1, r2⟩
theorem rows_own {X : Nat → Prop} {w : World} {b : BV} {c l : Nat → Int} {y1 y2 : Nat} (e1 : b.a1 = some ⟨y1, 0, none⟩) (e2 : b.a2 = some ⟨y2, 0, none⟩) (h1 : X y1) (h2 : X y2) (hne : y1 ≠ y2) (r1 : Row w y1 16 (fun i => .int .i64 (c i))) (r2 : Row w y2 16 (fun i => .int .i64 (l i))) : BookOwn X w b ⟨16, c, 16, l⟩ :=
  ⟨fun x => x = y1, fun x => x = y2, fun x hx => ⟨hx ▸ h1, fun e => hne (hx ▸ e)⟩, fun x hx => hx ▸ h2, ⟨by show 16 ≤ _; omega, fun _ => ⟨y1, rfl, e1, r1⟩⟩, ⟨by show 16 ≤ _; omega, fun _ => ⟨y2, rfl, e2, r2⟩⟩⟩
def mixF (j : Nat) (f g : Nat → Int) : Nat → Int := fun t => if t < j then f t else g t
theorem mix_set {w : World} {y j : Nat} {f g : Nat → Int} (r : Row w y 16 (fun i => .int .i64 (mixF j f g i))) : Row (w.setCell ⟨y, j, none⟩ (.int .i64 (f j))) y 16 (fun i => .int .i64 (mixF (j + 1) f g i)) :=
  (r.set j _).congr (fun i hi => by
    unfold mixF
    by_cases e : i = j
    · subst e; simp
    · rw [if_neg e]
      by_cases e2 : i < j
      · simp [e2, Nat.lt_succ_of_lt e2]
      · have e3 : ¬ i < j + 1 := by omega
        simp [e2, e3])
theorem mix_keep {w : World} {y j : Nat} {f g : Nat → Int} (r : Row w y 16 (fun i => .int .i64 (mixF j f g i))) (h : f j = g j) : Row w y 16 (fun i => .int .i64 (mixF (j + 1) f g i)) :=
  r.congr (fun i hi => by
    unfold mixF
    by_cases e : i = j
    · subst e; simp [h]
    · by_cases e2 : i < j
      · simp [e2, Nat.lt_succ_of_lt e2]
      · have e3 : ¬ i < j + 1 := by omega
        simp [e2, e3])
/-- What stands while pages are dropped. -/
structure Dropping (w wr : World) (zb y1 y2 : Nat) (v0 v1 : Value) (c l : Nat → Int) (o : Int) (j : Nat) : Prop where
  r1 : Row wr y1 16 (fun i => .int .i64 (mixF j (dropC c o) c i))
  r2 : Row wr y2 16 (fun i => .int .i64 (mixF j (dropL c l o) l i))
  bx : Row wr zb 2 (fun i => if i = 0 then v0 else v1)
  rs : Row wr (w.heap.size + 1) 2 (fun i => if i = 0 then .slice none 0 0 else .slice none 0 0)
  blw : Blw w wr
  lo : w.heap.size + 1 < y1 ∧ w.heap.size + 1 < y2 ∧ w.heap.size + 1 < zb
  ne : y1 ≠ y2 ∧ y1 ≠ zb ∧ y2 ≠ zb
theorem Dropping.s1 {w wr : World} {zb y1 y2 : Nat} {v0 v1 : Value} {c l : Nat → Int} {o : Int} {j : Nat} (D : Dropping w wr zb y1 y2 v0 v1 c l o j) (h : c j = o) : Dropping w ((wr.setCell ⟨y1, j, none⟩ (.int .i64 0)).setCell ⟨y2, j, none⟩ (.int .i64 0)) zb y1 y2 v0 v1 c l o (j + 1) := by
  obtain ⟨n1, n2, n3⟩ := D.ne
  obtain ⟨l1, l2, l3⟩ := D.lo
  have m1 : Mod (fun x => x = y1) wr (wr.setCell ⟨y1, j, none⟩ (.int .i64 0)) := Mod.setCell (X := fun x => x = y1) _ (p := ⟨y1, j, none⟩) rfl _
  have m2 : Mod (fun x => x = y2) (wr.setCell ⟨y1, j, none⟩ (.int .i64 0)) ((wr.setCell ⟨y1, j, none⟩ (.int .i64 0)).setCell ⟨y2, j, none⟩ (.int .i64 0)) := Mod.setCell (X := fun x => x = y2) _ (p := ⟨y2, j, none⟩) rfl _
  have e1 : dropC c o j = 0 := by simp [dropC, h]
  have e2 : dropL c l o j = 0 := by simp [dropL, h]
  have a1 := mix_set D.r1
  rw [e1] at a1
  have a2 := mix_set (D.r2.mod m1 (fun e => n1 e.symm))
  rw [e2] at a2
  exact ⟨a1.mod m2 n1, a2, (D.bx.mod m1 (fun e => n2 e.symm)).mod m2 (fun e => n3 e.symm), (D.rs.mod m1 (by omega)).mod m2 (by omega), Mod.blw (Mod.blw D.blw m1 (fun i hi => by omega)) m2 (fun i hi => by omega), D.lo, D.ne⟩
theorem Dropping.s2 {w wr : World} {zb y1 y2 : Nat} {v0 v1 : Value} {c l : Nat → Int} {o : Int} {j : Nat} (D : Dropping w wr zb y1 y2 v0 v1 c l o j) (h : ¬ c j = o) (h2 : l j = o) : Dropping w (wr.setCell ⟨y2, j, none⟩ (.int .i64 0)) zb y1 y2 v0 v1 c l o (j + 1) := by
  obtain ⟨n1, n2, n3⟩ := D.ne
  obtain ⟨l1, l2, l3⟩ := D.lo
  have m2 : Mod (fun x => x = y2) wr (wr.setCell ⟨y2, j, none⟩ (.int .i64 0)) := Mod.setCell (X := fun x => x = y2) _ (p := ⟨y2, j, none⟩) rfl _
  have e1 : dropC c o j = c j := by simp [dropC, h]
  have e2 : dropL c l o j = 0 := by simp [dropL, h, h2]
  have a2 := mix_set D.r2
  rw [e2] at a2
  exact ⟨(mix_keep D.r1 e1).mod m2 n1, a2, D.bx.mod m2 (fun e => n3 e.symm), D.rs.mod m2 (by omega), Mod.blw D.blw m2 (fun i hi => by omega), D.lo, D.ne⟩
theorem Dropping.s3 {w wr : World} {zb y1 y2 : Nat} {v0 v1 : Value} {c l : Nat → Int} {o : Int} {j : Nat} (D : Dropping w wr zb y1 y2 v0 v1 c l o j) (h : ¬ c j = o) (h2 : ¬ l j = o) : Dropping w wr zb y1 y2 v0 v1 c l o (j + 1) :=
  ⟨mix_keep D.r1 (by simp [dropC, h]), mix_keep D.r2 (by simp [dropL, h, h2]), D.bx, D.rs, D.blw, D.lo, D.ne⟩
set_option maxRecDepth 10000 in
set_option maxHeartbeats 3200000 in
theorem specDrop_any (b : BV) (B : BD) (o : Int) (Y : Nat → Prop) (w : World) (h : BookAt Y w b B) :
    Calls Try.prog 35 #[b.val B, .int .i64 o] w (GivesN (resN (muOK B o) (dropped B o) (had B o)) w) := by
  have hb0 : Blw w ((w.alloc (.cells #[.slice b.a1 B.n b.c1, .slice b.a2 B.k b.c2] 25)).alloc (.cells #[.slice none 0 0, .slice none 0 0] 25)) := ((Blw.refl _).alloc _).alloc _
  have r0 := (box2 w (.slice b.a1 B.n b.c1) (.slice b.a2 B.k b.c2) 25).blw ((Blw.refl _).alloc (.cells #[.slice none 0 0, .slice none 0 0] 25))
  have r1 := box2 (w.alloc (.cells #[.slice b.a1 B.n b.c1, .slice b.a2 B.k b.c2] 25)) (.slice none 0 0) (.slice none 0 0) 25
  rw [World.size_alloc] at r1
  have HA : Hid (BookAt Y ((w.alloc (.cells #[.slice b.a1 B.n b.c1, .slice b.a2 B.k b.c2] 25)).alloc (.cells #[.slice none 0 0, .slice none 0 0] 25)) b B) := h.blw hb0
  clear h
  go_enter Try.func35, Try.ntmps35
  go_wp2_with fail
  refine (specGood_any b B Y _ HA.out).mono ?_
  rintro e w1 ⟨r, rfl, hr, hb1⟩
  have HT : Hid (r = true ↔ B.Good) := hr
  have HB : Hid (Blw w w1) := hb0.trans hb1
  have HR0 : Hid (Row w1 w.heap.size 2 (fun i => if i = 0 then .slice b.a1 B.n b.c1 else .slice b.a2 B.k b.c2)) := r0.blw hb1
  have HR1 : Hid (Row w1 (w.heap.size + 1) 2 (fun i => if i = 0 then .slice none 0 0 else .slice none 0 0)) := r1.blw hb1
  replace HA : Hid (BookAt Y w1 b B) := HA.out.blw hb1
  obtain ⟨t0, t1⟩ := get2 HR1.out
  have f0 := HR1.out.frozen 0
  have f1 := HR1.out.frozen 1
  clear hr hb0 hb1 r0 r1
  cases r
  · have HN : Hid (¬ B.Good) := fun g => by have := HT.out.2 g; simp at this
    clear HT
    go_wp2
    exact bodyPost_ret (v := .tuple #[BV.zero.val BD.zero, .int .i64 0, .bool false]) (by simp [results, Try.results35, go_sem, t0, t1]) rfl (zero_givesN (by omega) (Or.inr ⟨fun g => HN.out g.1, rfl, rfl, rfl⟩) HB.out)
  have HG : Hid (B.Good) := HT.out.1 (by first | rfl | trivial)
  clear HT
  go_wp2_with fail
  refine (l5Who_any o _).mono ?_
  rintro e w1 ⟨r, rfl, hr, rfl⟩
  have HT : Hid (r = true ↔ whoOK o) := hr
  clear hr
  cases r
  · have HN : Hid (¬ whoOK o) := fun g => by have := HT.out.2 g; simp at this
    clear HT
    go_wp2
    exact bodyPost_ret (v := .tuple #[BV.zero.val BD.zero, .int .i64 0, .bool false]) (by simp [results, Try.results35, go_sem, t0, t1]) rfl (zero_givesN (by omega) (Or.inr ⟨fun g => HN.out g.2, rfl, rfl, rfl⟩) HB.out)
  have H1 : Hid (whoOK o) := HT.out.1 (by first | rfl | trivial)
  clear HT
  obtain ⟨n, c, k, l⟩ := B
  have hn16 : n = 16 := HG.out.n
  have hk16 : k = 16 := HG.out.k
  subst hn16 hk16
  obtain ⟨p0, p1⟩ := get2 HR0.out
  have HZ : Hid (w.heap.size + 1 < w1.heap.size) := HR1.out.lt
  go_wp2_with fail
  clear p0 p1 t0 t1 f0 f1
  refine (l5Own_any b ⟨16, c, 16, l⟩ Y _ (by show 16 + 16 ≤ _; omega) HA.out).mono ?_
  rintro e w2 ⟨⟨u1, u2, u3, u4⟩, rfl, own, hb2⟩
  obtain ⟨y1, y2, ey1, ey2, x1, x2, hne, q1, q2⟩ := own_rows own
  dsimp only at ey1 ey2
  subst ey1 ey2
  simp only [BV.val]
  have hA : Blw w2 (w2.alloc (.cells #[.slice (some ⟨y1, 0, none⟩) 16 u3, .slice (some ⟨y2, 0, none⟩) 16 u4] 25)) := (Blw.refl _).alloc _
  have hz := HZ.out
  have D0 : Hid (Dropping w (w2.alloc (.cells #[.slice (some ⟨y1, 0, none⟩) 16 u3, .slice (some ⟨y2, 0, none⟩) 16 u4] 25)) w2.heap.size y1 y2 (.slice (some ⟨y1, 0, none⟩) 16 u3) (.slice (some ⟨y2, 0, none⟩) 16 u4) c l o 0) :=
    ⟨(q1.blw hA).congr (fun i hi => by simp [mixF]), (q2.blw hA).congr (fun i hi => by simp [mixF]), box2 w2 _ _ 25, (HR1.out.blw hb2).blw hA, (HB.out.trans hb2).trans hA, by have := hb2.size; omega, ⟨hne, by omega, by omega⟩⟩
  clear own q1 q2 hA hb2 HR1 HR0 HB HA hz HZ x1 x2 hne
  obtain ⟨p0, p1⟩ := get2 D0.out.bx
  go_wp2_with fail
  clear p0 p1
  generalize w2.heap.size = zb at *
  go_loopw [8, 24] (fun v i wr => ∃ j : Nat, j ≤ 16 ∧ i = .int .i64 j ∧ v = .int .i64 ((pk (ownP c o) j).length : Nat) ∧ Dropping w wr zb y1 y2 (.slice (some ⟨y1, 0, none⟩) 16 u3) (.slice (some ⟨y2, 0, none⟩) 16 u4) c l o j) (fun _ i _ => 16 - (intOf i).toNat)
  case atStart => exact ⟨0, by omega, rfl, rfl, D0.out⟩
  case round =>
    obtain ⟨j, hj, rfl, rfl, hD⟩ := hrel
    clear D0
    have HD : Hid (Dropping w wr zb y1 y2 (.slice (some ⟨y1, 0, none⟩) 16 u3) (.slice (some ⟨y2, 0, none⟩) 16 u4) c l o j) := hD
    clear hD
    obtain ⟨p0, p1⟩ := get2 HD.out.bx
    by_cases hlt : j < 16
    · have hlt' : (j : Int) < 16 := by omega
      have g1 : wr.cell? ⟨y1, j, none⟩ = some (.int .i64 (c j)) := by simpa [mixF] using HD.out.r1.cell hlt
      have g2 : wr.cell? ⟨y2, j, none⟩ = some (.int .i64 (l j)) := by simpa [mixF] using HD.out.r2.cell hlt
      have z1 := HD.out.r1.frozen j
      have z2 := HD.out.r2.frozen j
      have ne := HD.out.ne
      have n1 : y1 ≠ y2 := ne.1
      have n2 : y1 ≠ zb := ne.2.1
      have n3 : y2 ≠ zb := ne.2.2
      clear ne
      have hle := pk_len (ownP c o) j
      by_cases h1 : c j = o
      · have d1 : (c j == o) = true := by simp [h1]
        have HN : Hid (Dropping w _ zb y1 y2 _ _ c l o (j + 1)) := HD.out.s1 h1
        have hk : ((pk (ownP c o) j).length : Int) + 1 = ((pk (ownP c o) (j + 1)).length : Nat) := by rw [pk_yes (show ownP c o j = true by simp [ownP, h1])]; simp
        have HK : Hid (((pk (ownP c o) j).length : Int) + 1 = ((pk (ownP c o) (j + 1)).length : Nat)) := hk
        obtain ⟨v0, v1⟩ := get2 HN.out.bx
        have m1 : Mod (fun x => x = y1) wr (wr.setCell ⟨y1, j, none⟩ (.int .i64 0)) := Mod.setCell (X := fun x => x = y1) _ (p := ⟨y1, j, none⟩) rfl _
        obtain ⟨w0', w1'⟩ := get2 (HD.out.bx.mod m1 (fun e => n2 e.symm))
        have g2' : (wr.setCell ⟨y1, j, none⟩ (.int .i64 0)).cell? ⟨y2, j, none⟩ = some (.int .i64 (l j)) := m1.cell g2 (fun e => n1 e.symm)
        have z2' : (wr.setCell ⟨y1, j, none⟩ (.int .i64 0)).frozen? ⟨y2, j, none⟩ = false := (HD.out.r2.mod m1 (fun e => n1 e.symm)).frozen j
        have d3 : ((0 : Int) == o) = false := by have := H1.out; unfold whoOK at this; simp; omega
        obtain ⟨K, hK⟩ : ∃ K, K = (pk (ownP c o) j).length := ⟨_, rfl⟩
        rw [← hK] at hle HK hk ⊢
        have HKK : Hid (K = (pk (ownP c o) j).length) := hK
        have gy : ((wr.setCell ⟨y1, j, none⟩ (.int .i64 0)).setCell ⟨y2, j, none⟩ (.int .i64 0)).cell? ⟨y2, j, none⟩ = some (.int .i64 0) := by
          have := HN.out.r2.cell hlt
          simpa [mixF, dropL, h1] using this
        clear h1 hK hk HD m1
        go_wp2
        go_roundw
        case rel => exact ⟨j + 1, by omega, by go_num, by rw [← HK.out], HN.out⟩
        case measure => simp [intOf]; omega
      · have d1 : (c j == o) = false := by simp [h1]
        have hk : (pk (ownP c o) (j + 1)).length = (pk (ownP c o) j).length := by rw [pk_no (show ownP c o j = false by simp [ownP, h1])]
        have HK : Hid ((pk (ownP c o) (j + 1)).length = (pk (ownP c o) j).length) := hk
        by_cases h2 : l j = o
        · have d2 : (l j == o) = true := by simp [h2]
          have HN : Hid (Dropping w _ zb y1 y2 _ _ c l o (j + 1)) := HD.out.s2 h1 h2
          clear h1 h2 hk HD
          go_wp2
          go_roundw
          case rel => exact ⟨j + 1, by omega, by go_num, by rw [HK.out], HN.out⟩
          case measure => simp [intOf]; omega
        · have d2 : (l j == o) = false := by simp [h2]
          have HN : Hid (Dropping w _ zb y1 y2 _ _ c l o (j + 1)) := HD.out.s3 h1 h2
          clear h1 h2 hk HD
          go_wp2
          go_roundw
          case rel => exact ⟨j + 1, by omega, by go_num, by rw [HK.out], HN.out⟩
          case measure => simp [intOf]; omega
    · obtain rfl : j = 16 := by omega
      have hz := HD.out.lo
      have l1 := HD.out.r1.lt
      have l2 := HD.out.r2.lt
      have own : BookOwn (fun x => x = y1 ∨ x = y2) wr ⟨some ⟨y1, 0, none⟩, some ⟨y2, 0, none⟩, u3, u4⟩ ⟨16, dropC c o, 16, dropL c l o⟩ := rows_own rfl rfl (Or.inl rfl) (Or.inr rfl) HD.out.ne.1 (HD.out.r1.congr (fun i hi => by simp [mixF, hi])) (HD.out.r2.congr (fun i hi => by simp [mixF, hi]))
      have FIN : Hid _ := fin_givesN (z := w.heap.size + 1) (out := resN (muOK ⟨16, c, 16, l⟩ o) (dropped ⟨16, c, 16, l⟩ o) (had ⟨16, c, 16, l⟩ o)) (w := w) (R := ⟨16, dropC c o, 16, dropL c l o⟩) (v := ((pk (ownP c o) 16).length : Nat)) (Or.inl ⟨⟨HG.out, H1.out⟩, rfl, rfl, rfl⟩) (by show 16 + 16 ≤ _; omega) HD.out.blw (by omega) own (fun x hx => by rcases hx with rfl | rfl <;> omega)
      obtain ⟨t0, t1⟩ := get2 HD.out.rs
      have f0 := HD.out.rs.frozen 0
      have f1 := HD.out.rs.frozen 1
      clear own hz l1 l2 HD
      go_wp2
      exact bodyPost_ret (v := .tuple #[(BV.mk (some ⟨y1, 0, none⟩) (some ⟨y2, 0, none⟩) u3 u4).val ⟨16, dropC c o, 16, dropL c l o⟩, .int .i64 ((pk (ownP c o) 16).length : Nat), .bool true]) (by simp [results, Try.results35, go_sem, t0, t1]) rfl FIN.out
end Go.Proofs.Ytfmmpddknanhbaa
