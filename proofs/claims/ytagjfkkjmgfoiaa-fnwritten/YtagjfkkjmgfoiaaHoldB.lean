/- 'holdBook': a good book is taken in. -/
import Derived.Test.YtagjfkkjmgfoiaaNote
namespace Go.Proofs.Ytagjfkkjmgfoiaa
open Go.RowKit Go.ChangeMaps
set_option linter.unusedSimpArgs false
set_option linter.unusedVariables false
abbrev eight (f : Nat → Int) : Array Value := #[.int .i64 (f 0), .int .i64 (f 1), .int .i64 (f 2), .int .i64 (f 3), .int .i64 (f 4), .int .i64 (f 5), .int .i64 (f 6), .int .i64 (f 7)]
abbrev nine (f : Nat → Int) (m : Option Nat) : Array Value := #[.int .i64 (f 0), .int .i64 (f 1), .int .i64 (f 2), .int .i64 (f 3), .int .i64 (f 4), .int .i64 (f 5), .int .i64 (f 6), .int .i64 (f 7), .map m]
theorem index8_0 (f : Nat → Int) (w : World) : (Instr.index 70 (.agg (eight f)) (.int .i64 0)).run Try.prog w = .ok (.int .i64 (f 0)) w := by kernel_rfl
theorem index8_1 (f : Nat → Int) (w : World) : (Instr.index 70 (.agg (eight f)) (.int .i64 1)).run Try.prog w = .ok (.int .i64 (f 1)) w := by kernel_rfl
theorem index8_2 (f : Nat → Int) (w : World) : (Instr.index 70 (.agg (eight f)) (.int .i64 2)).run Try.prog w = .ok (.int .i64 (f 2)) w := by kernel_rfl
theorem index8_3 (f : Nat → Int) (w : World) : (Instr.index 70 (.agg (eight f)) (.int .i64 3)).run Try.prog w = .ok (.int .i64 (f 3)) w := by kernel_rfl
theorem index8_4 (f : Nat → Int) (w : World) : (Instr.index 70 (.agg (eight f)) (.int .i64 4)).run Try.prog w = .ok (.int .i64 (f 4)) w := by kernel_rfl
theorem index8_5 (f : Nat → Int) (w : World) : (Instr.index 70 (.agg (eight f)) (.int .i64 5)).run Try.prog w = .ok (.int .i64 (f 5)) w := by kernel_rfl
theorem index8_6 (f : Nat → Int) (w : World) : (Instr.index 70 (.agg (eight f)) (.int .i64 6)).run Try.prog w = .ok (.int .i64 (f 6)) w := by kernel_rfl
theorem index8_7 (f : Nat → Int) (w : World) : (Instr.index 70 (.agg (eight f)) (.int .i64 7)).run Try.prog w = .ok (.int .i64 (f 7)) w := by kernel_rfl
theorem index8 (f : Nat → Int) (k : Nat) (hk : k < 8) (w : World) : (Instr.index 70 (.agg (eight f)) (.int .i64 (k : Int))).run Try.prog w = .ok (.int .i64 (f k)) w := by
  match k, hk with
  | 0, _ => exact index8_0 f w
  | 1, _ => exact index8_1 f w
  | 2, _ => exact index8_2 f w
  | 3, _ => exact index8_3 f w
  | 4, _ => exact index8_4 f w
  | 5, _ => exact index8_5 f w
  | 6, _ => exact index8_6 f w
  | 7, _ => exact index8_7 f w
theorem row_nine (w : World) (f : Nat → Int) (m : Option Nat) (t : TypeId) : Row (w.alloc (.cells (nine f m) t)) w.heap.size 9 (fun i => if i < 8 then .int .i64 (f i) else .map m) :=
  ⟨_, t, heap_alloc_new _ _, by simp, fun i hi => by
    match i, hi with
    | 0, _ => rfl
    | 1, _ => rfl
    | 2, _ => rfl
    | 3, _ => rfl
    | 4, _ => rfl
    | 5, _ => rfl
    | 6, _ => rfl
    | 7, _ => rfl
    | 8, _ => rfl⟩
theorem row9 {w : World} {b : Nat} {f : Nat → Value} (r : Row w b 9 f) : w.cell? ⟨b, 0, none⟩ = some (f 0) ∧ w.cell? ⟨b, 1, none⟩ = some (f 1) ∧ w.cell? ⟨b, 2, none⟩ = some (f 2) ∧ w.cell? ⟨b, 3, none⟩ = some (f 3) ∧ w.cell? ⟨b, 4, none⟩ = some (f 4) ∧ w.cell? ⟨b, 5, none⟩ = some (f 5) ∧ w.cell? ⟨b, 6, none⟩ = some (f 6) ∧ w.cell? ⟨b, 7, none⟩ = some (f 7) ∧ w.cell? ⟨b, 8, none⟩ = some (f 8) :=
  ⟨r.cell (by omega), r.cell (by omega), r.cell (by omega), r.cell (by omega), r.cell (by omega), r.cell (by omega), r.cell (by omega), r.cell (by omega), r.cell (by omega)⟩
theorem hinfo3 : (Try.prog.info? 3).map (·.size) = some 1 := by kernel_rfl
/-- The blocks that holdBook lays first. -/
theorem hold_boxes (w : World) (x y : Value) :
    let w0 := (((w.alloc (.cells #[x, y] 26)).alloc (.cells (nine (fun _ => 0) none) 73)).alloc (.map #[] 0)).alloc (.cells (nine (fun _ => 0) (some (w.heap.size + 1 + 1))) 73)
    Blw w w0 ∧ Row w0 w.heap.size 2 (fun i => if i = 0 then x else y) ∧ Row w0 (w.heap.size + 1) 9 (fun i => if i < 8 then .int .i64 0 else .map none) ∧ w0.heap[w.heap.size + 1 + 1]? = some (.map #[] 0) ∧ Row w0 (w.heap.size + 1 + 1 + 1) 9 (hcell (fun _ => 0) (w.heap.size + 1 + 1)) ∧ w0.heap.size = w.heap.size + 1 + 1 + 1 + 1 := by
  intro w0
  have b1 : Blw (w.alloc (.cells #[x, y] 26)) w0 := (((Blw.refl _).alloc _).alloc _).alloc _
  have b2 : Blw ((w.alloc (.cells #[x, y] 26)).alloc (.cells (nine (fun _ => 0) none) 73)) w0 := ((Blw.refl _).alloc _).alloc _
  have b3 : Blw (((w.alloc (.cells #[x, y] 26)).alloc (.cells (nine (fun _ => 0) none) 73)).alloc (.map #[] 0)) w0 := (Blw.refl _).alloc _
  refine ⟨((((Blw.refl _).alloc _).alloc _).alloc _).alloc _, (box2 w x y 26).blw b1, ?_, ?_, ?_, by simp [w0]⟩
  · have := (row_nine (w.alloc (.cells #[x, y] 26)) (fun _ => 0) none 73).blw b2
    rw [World.size_alloc] at this
    exact this
  · have := LogAt.made ((w.alloc (.cells #[x, y] 26)).alloc (.cells (nine (fun _ => 0) none) 73)) (fun _ => 0) (fun _ => 0)
    rw [World.size_alloc, World.size_alloc] at this
    exact this.blw b3
  · have := row_nine (((w.alloc (.cells #[x, y] 26)).alloc (.cells (nine (fun _ => 0) none) 73)).alloc (.map #[] 0)) (fun _ => 0) (some (w.heap.size + 1 + 1)) 73
    rw [World.size_alloc, World.size_alloc, World.size_alloc] at this
    exact this
theorem ents_congr {lc lw lc' lw' : Nat → Int} {k : Nat} (h : ∀ i, i < k → lc i = lc' i ∧ lw i = lw' i) : ents lc lw k = ents lc' lw' k := by
  apply List.map_congr_left
  intro i hi
  have := h i (List.mem_range.1 hi)
  simp [ent, this.1, this.2]
theorem LogAt.congr {w : World} {bm k : Nat} {lc lw lc' lw' : Nat → Int} (h : LogAt w bm k lc lw) (e : ∀ i, i < k → lc i = lc' i ∧ lw i = lw' i) : LogAt w bm k lc' lw' := by
  unfold LogAt at *
  rw [h, ents_congr e]
theorem isCell_yes (x : Int) (w : World) (h : cellOK x) : Calls Try.prog 56 #[.int .i64 x] w fun e w' => e = .returned (.bool true) ∧ w' = w := by
  obtain ⟨h1, h2⟩ := h
  have h3 : x < 8 := by omega
  go_enter Try.func56, Try.ntmps56
  go_wp2
  go_ret
  exact ⟨rfl, rfl⟩
theorem isCell_no (x : Int) (w : World) (h : ¬ cellOK x) : Calls Try.prog 56 #[.int .i64 x] w fun e w' => e = .returned (.bool false) ∧ w' = w := by
  unfold cellOK at h
  by_cases h1 : 0 ≤ x
  · have h2 : ¬ x < 8 := by omega
    clear h
    go_enter Try.func56, Try.ntmps56
    go_wp2
    go_ret
    exact ⟨rfl, rfl⟩
  · clear h
    go_enter Try.func56, Try.ntmps56
    go_wp2
    go_ret
    exact ⟨rfl, rfl⟩
theorem set9_blw {w w1 : World} {B : Nat} (h : Blw w w1) (hB : w.heap.size ≤ B) (v0 v1 v2 v3 v4 v5 v6 v7 v8 : Value) :
    Blw w (((((((((w1.setCell ⟨B, 0, none⟩ v0).setCell ⟨B, 1, none⟩ v1).setCell ⟨B, 2, none⟩ v2).setCell ⟨B, 3, none⟩ v3).setCell ⟨B, 4, none⟩ v4).setCell ⟨B, 5, none⟩ v5).setCell ⟨B, 6, none⟩ v6).setCell ⟨B, 7, none⟩ v7).setCell ⟨B, 8, none⟩ v8) :=
  ((((((((h.setCell hB _).setCell hB _).setCell hB _).setCell hB _).setCell hB _).setCell hB _).setCell hB _).setCell hB _).setCell hB _
theorem set9_mod {X : Nat → Prop} (w1 : World) {B : Nat} (hB : X B) (v0 v1 v2 v3 v4 v5 v6 v7 v8 : Value) :
    Mod X w1 (((((((((w1.setCell ⟨B, 0, none⟩ v0).setCell ⟨B, 1, none⟩ v1).setCell ⟨B, 2, none⟩ v2).setCell ⟨B, 3, none⟩ v3).setCell ⟨B, 4, none⟩ v4).setCell ⟨B, 5, none⟩ v5).setCell ⟨B, 6, none⟩ v6).setCell ⟨B, 7, none⟩ v7).setCell ⟨B, 8, none⟩ v8) :=
  ((((((((((Mod.setCell _ (p := ⟨B, 0, none⟩) hB _).trans (Mod.setCell _ (p := ⟨B, 1, none⟩) hB _)).trans (Mod.setCell _ (p := ⟨B, 2, none⟩) hB _)).trans (Mod.setCell _ (p := ⟨B, 3, none⟩) hB _)).trans (Mod.setCell _ (p := ⟨B, 4, none⟩) hB _)).trans (Mod.setCell _ (p := ⟨B, 5, none⟩) hB _)).trans (Mod.setCell _ (p := ⟨B, 6, none⟩) hB _)).trans (Mod.setCell _ (p := ⟨B, 7, none⟩) hB _)).trans (Mod.setCell _ (p := ⟨B, 8, none⟩) hB _)))
/-- What stands in holdBook behind j entries of the log. -/
structure Holding (Y : Nat → Prop) (w wr : World) (z : Nat) (a2 : Option Addr) (c2 k : Nat) (c lc lw : Nat → Int) (j : Nat) : Prop where
  blw : Blw w wr
  held : Held wr (z + 1 + 1 + 1) (z + 1 + 1) c j lc lw
  out : Row wr (z + 1) 9 (fun i => if i < 8 then .int .i64 0 else .map none)
  und : UndosAt Y wr a2 k lc lw
  ok : ∀ t, t < j → cellOK (lc t) ∧ wordOK (lw t)
  d : distinct j lc
theorem Holding.blw' {Y : Nat → Prop} {w wr w' : World} {z : Nat} {a2 : Option Addr} {c2 k : Nat} {c lc lw : Nat → Int} {j : Nat} (h : Holding Y w wr z a2 c2 k c lc lw j) (hb : Blw wr w') : Holding Y w w' z a2 c2 k c lc lw j :=
  ⟨h.blw.trans hb, h.held.blw hb, h.out.blw hb, h.und.blw hb, h.ok, h.d⟩
theorem Holding.step {Y : Nat → Prop} {w wr w' : World} {a2 : Option Addr} {c2 k : Nat} {c lc lw lc' lw' : Nat → Int} {j k' : Nat} (h : Holding Y w wr w.heap.size a2 c2 k c lc lw j) (hY : ∀ b, Y b → b < w.heap.size)
    (ok : cellOK (lc j) ∧ wordOK (lw j)) (fr : ∀ t, t < j → lc t ≠ lc j) (hl : logged j lc lw (lc j) (lw j) k' lc' lw') (hh : Held w' (w.heap.size + 1 + 1 + 1) (w.heap.size + 1 + 1) c k' lc' lw') (hm : Mod (fun b => b = w.heap.size + 1 + 1) wr w') :
    Holding Y w w' w.heap.size a2 c2 k c lc lw (j + 1) := by
  rcases hl with ⟨⟨i, hi, e⟩, -⟩ | ⟨-, rfl, rfl, rfl⟩
  · exact absurd e (fr i hi)
  refine ⟨Mod.blw h.blw hm (fun i hi => by omega), ⟨hh.box, hh.log.congr fun i hi => ?_⟩, h.out.mod hm (by omega), h.und.mod hm (fun b hb e => by have := hY b hb; omega), fun t ht => ?_, fun p q hp hq e => ?_⟩
  · by_cases e : i = j
    · subst e; simp [snoc]
    · simp [snoc, e]
  · by_cases e : t = j
    · subst e; exact ok
    · exact h.ok t (by omega)
  · by_cases e1 : p = j
    · by_cases e2 : q = j
      · omega
      · subst e1; exact absurd e.symm (fr q (by omega))
    · by_cases e2 : q = j
      · subst e2; exact absurd e (fr p (by omega))
      · exact h.d p q (by omega) (by omega) e
set_option maxHeartbeats 3200000 in
theorem hold_any (b : BV) (B : BD) (Y : Nat → Prop) (w : World) (h : BookAt Y w b B) (hY : ∀ b, Y b → b < w.heap.size) :
    Calls Try.prog 55 #[b.val B] w fun e w' => ((∃ bm, B.Good ∧ e = .returned (.tuple #[.agg (nine B.c (some bm)), .bool true]) ∧ LogAt w' bm B.k B.lc B.lw ∧ w.heap.size ≤ bm) ∨ (¬ B.Good ∧ e = .returned (.tuple #[.agg (nine (fun _ => 0) none), .bool false]))) ∧ Blw w w' := by
  obtain ⟨n, c, k, lc, lw⟩ := B
  obtain ⟨a1, a2, c1, c2⟩ := b
  by_cases hn : n = 8
  · subst hn
    obtain ⟨b, o, rfl, -, -⟩ := h.c.2 0 (by show 0 < 8; omega)
    have hc : ∀ i, i < 8 → w.cell? ⟨b, o + i, none⟩ = some (.int .i64 (c i)) := fun i hi => by
      obtain ⟨b', o', e, -, g⟩ := h.c.2 i hi
      simp only [Option.some.injEq, Addr.mk.injEq, and_true] at e
      rw [e.1, e.2]; exact g
    have HL : Hid (UndosAt Y w a2 k lc lw) := h.l
    have hk := h.l.1
    clear h
    have hmm := @run_makeMap Try.prog
    go_enter Try.func55, Try.ntmps55
    go_wp2
    clear hmm
    obtain ⟨hb0, r0, r1, rm, rH, hz⟩ := hold_boxes w (.slice (some ⟨b, o, none⟩) 8 c1) (.slice a2 k c2)
    revert hb0 r0 r1 rm rH hz
    generalize (((w.alloc (.cells #[.slice (some ⟨b, o, none⟩) 8 c1, .slice a2 k c2] 26)).alloc (.cells (nine (fun _ => 0) none) 73)).alloc (.map #[] 0)).alloc (.cells (nine (fun _ => 0) (some (w.heap.size + 1 + 1))) 73) = w0
    intro hb0 r0 r1 rm rH hz
    obtain ⟨p0, p1⟩ := get2 r0
    obtain ⟨w1, hcp, hr1, hm1, hz1⟩ := run_copy_fn (P := Try.prog) w0.drew 23 23 3 3 (w.heap.size + 1 + 1 + 1) 0 8 8 ⟨b, o, none⟩ 8 c1 8 (fun t => .int .i64 (c t)) 9 (hcell (fun _ => 0) (w.heap.size + 1 + 1)) Try.underlying23 hinfo3 rfl (fun j hj => by rw [Addr.add_mid]; exact hb0.cell (hc j hj)) (fun _ _ => rfl) rH (by omega)
    go_region
    replace hm1 : Mod (fun x => x = w.heap.size + 1 + 1 + 1) w0 w1 := Mod.trans ((Blw.refl w0).drew.mod _) hm1
    have hb1 : Blw w w1 := Mod.blw hb0 hm1 (fun i hi => by omega)
    have HD : Hid (Holding Y w w1 w.heap.size a2 c2 k c lc lw 0) := ⟨hb1, ⟨hr1.congr (fun i hi => by by_cases e : i < 8 <;> simp [hcell, e]), LogAt.mod (lc := lc) (lw := lw) (k := 0) rm hm1 (by omega)⟩, r1.mod hm1 (by omega), HL.out.blw hb1, fun t ht => absurd ht (Nat.not_lt_zero _), fun p q hp => absurd hp (Nat.not_lt_zero _)⟩
    have p1 := (get2 (r0.mod hm1 (by omega))).2
    clear hb0 r0 r1 rm rH hz p0 hcp hr1 hm1 hz1 hc HL
    obtain ⟨s0, s1, s2, s3, s4, s5, s6, s7, s8⟩ := row9 HD.out.held.box
    simp only [hcell, show (0 : Nat) < 8 from by omega, show (1 : Nat) < 8 from by omega, show (2 : Nat) < 8 from by omega, show (3 : Nat) < 8 from by omega, show (4 : Nat) < 8 from by omega, show (5 : Nat) < 8 from by omega, show (6 : Nat) < 8 from by omega, show (7 : Nat) < 8 from by omega, if_true] at s0 s1 s2 s3 s4 s5 s6 s7
    have R := HD.out.out
    obtain ⟨t0, t1, t2, t3, t4, t5, t6, t7, t8⟩ := row9 R
    have fz0 := R.frozen 0
    have fz1 := R.frozen 1
    have fz2 := R.frozen 2
    have fz3 := R.frozen 3
    have fz4 := R.frozen 4
    have fz5 := R.frozen 5
    have fz6 := R.frozen 6
    have fz7 := R.frozen 7
    have fz8 := R.frozen 8
    clear R
    have HB : Hid (Blw w w1) := hb1
    clear hb1
    go_wp2
    go_loop [23] (fun i => ∃ j : Nat, j ≤ 8 ∧ i = .int .i64 j ∧ ∀ t, t < j → wordOK (c t)) (fun i => 8 - (intOf i).toNat)
    case atStart => exact ⟨0, by omega, rfl, fun t ht => absurd ht (Nat.not_lt_zero _)⟩
    case round =>
      obtain ⟨j, hj, rfl, hw⟩ := hrel
      have HW : Hid (∀ t, t < j → wordOK (c t)) := hw
      clear hw
      by_cases hlt : j < 8
      · have hix := index8 c j hlt
        by_cases ok : wordOK (c j)
        · have OK : Hid (wordOK (c j)) := ok
          clear ok
          go_wp2_with fail
          refine (isWord_yes _ _ OK.out).mono ?_
          rintro e w' ⟨rfl, rfl⟩
          go_wp2
          go_round
          case rel => exact ⟨j + 1, by omega, by go_num, fun t ht => by
            by_cases e : t = j
            · subst e; exact OK.out
            · exact HW.out t (by omega)⟩
          case measure => simp [intOf]; omega
        · have OK : Hid (¬ wordOK (c j)) := ok
          clear ok
          go_wp2_with fail
          refine (isWord_no _ _ OK.out).mono ?_
          rintro e w' ⟨rfl, rfl⟩
          go_wp2
          refine bodyPost_ret (v := .tuple #[.agg (nine (fun _ => 0) none), .bool false]) (by simp [results, Try.results55, go_sem, t0, t1, t2, t3, t4, t5, t6, t7, t8]) rfl ⟨Or.inr ⟨fun g => ?_, rfl⟩, set9_blw HB.out (Nat.le_succ _) _ _ _ _ _ _ _ _ _⟩
          exact OK.out (g.c j hlt)
      · obtain rfl : j = 8 := by omega
        clear s0 s1 s2 s3 s4 s5 s6 s7 s8 t0 t1 t2 t3 t4 t5 t6 t7 t8 fz0 fz1 fz2 fz3 fz4 fz5 fz6 fz7 fz8 HB
        go_wp2
        clear p1
        go_loopw [34] (fun i wr => ∃ j : Nat, j ≤ k ∧ i = .int .i64 j ∧ Holding Y w wr w.heap.size a2 c2 k c lc lw j) (fun i _ => k - (intOf i).toNat)
        case atStart => exact ⟨0, by omega, rfl, HD.out⟩
        case round =>
          obtain ⟨j, hj, rfl, hd⟩ := hrel
          clear HD
          have HD : Hid (Holding Y w wr w.heap.size a2 c2 k c lc lw j) := hd
          clear hd
          by_cases hlt : j < k
          · have hlt' : (j : Int) < k := by omega
            obtain ⟨b2, o2, rfl, -, q0, q1⟩ := HD.out.und.2 j hlt
            have HA : Hid (Holding Y w (wr.alloc (.cells #[.int .i64 (lc j), .int .i64 (lw j)] 69)) w.heap.size (some ⟨b2, o2, none⟩) c2 k c lc lw j) := HD.out.blw' ((Blw.refl _).alloc _)
            have q2 := get2 (box2 wr (.int .i64 (lc j)) (.int .i64 (lw j)) 69)
            clear HD
            obtain ⟨q2, q3⟩ := q2
            by_cases ok1 : cellOK (lc j)
            · have OK1 : Hid (cellOK (lc j)) := ok1
              clear ok1
              go_wp2_with fail
              clear q0 q1
              refine (isCell_yes _ _ OK1.out).mono ?_
              rintro e w' ⟨rfl, rfl⟩
              by_cases ok2 : wordOK (lw j)
              · have OK2 : Hid (wordOK (lw j)) := ok2
                clear ok2
                go_wp2_with fail
                refine (isWord_yes _ _ OK2.out).mono ?_
                rintro e w' ⟨rfl, rfl⟩
                go_wp2_with fail
                clear q2 q3
                refine (note_any _ _ j c lc lw (lc j) (lw j) _ (by omega) HA.out.d HA.out.held).mono ?_
                rintro e w2 ⟨b3, k', lc', lw', rfl, hb3, hlg, hh, hm⟩
                cases b3
                · have HF : Hid (¬ ∀ t, t < j → lc t ≠ lc j) := fun g => absurd (hb3.2 g) (by decide)
                  have HA2 : Hid (Holding Y w w2 w.heap.size (some ⟨b2, o2, none⟩) c2 k c lc lw j) := by
                    rcases hlg with ⟨-, rfl, rfl, rfl⟩ | ⟨g, -⟩
                    · exact ⟨Mod.blw HA.out.blw hm (fun i hi => by omega), hh, HA.out.out.mod hm (by omega), HA.out.und.mod hm (fun b hb e => by have := hY b hb; omega), HA.out.ok, HA.out.d⟩
                    · exact absurd g HF.out
                  clear HA hb3 hlg hh hm
                  have R := HA2.out.out
                  obtain ⟨t0, t1, t2, t3, t4, t5, t6, t7, t8⟩ := row9 R
                  have fz0 := R.frozen 0; have fz1 := R.frozen 1; have fz2 := R.frozen 2; have fz3 := R.frozen 3; have fz4 := R.frozen 4; have fz5 := R.frozen 5; have fz6 := R.frozen 6; have fz7 := R.frozen 7; have fz8 := R.frozen 8
                  have HB : Hid (Blw w _) := HA2.out.blw
                  clear R HA2
                  go_wp2
                  refine bodyPost_ret (v := .tuple #[.agg (nine (fun _ => 0) none), .bool false]) (by simp [results, Try.results55, go_sem, t0, t1, t2, t3, t4, t5, t6, t7, t8]) rfl ⟨Or.inr ⟨fun g => ?_, rfl⟩, set9_blw HB.out (Nat.le_succ _) _ _ _ _ _ _ _ _ _⟩
                  exact HF.out (fun t ht e => by have := g.d t j (by show t < k; omega) hlt e; omega)
                · have HS : Hid (Holding Y w w2 w.heap.size (some ⟨b2, o2, none⟩) c2 k c lc lw (j + 1)) := HA.out.step hY ⟨OK1.out, OK2.out⟩ (hb3.1 rfl) hlg hh hm
                  clear HA hb3 hlg hh hm
                  go_wp2
                  go_roundw
                  case rel => exact ⟨j + 1, by omega, by go_num, HS.out⟩
                  case measure => simp [intOf]; omega
              · have OK2 : Hid (¬ wordOK (lw j)) := ok2
                clear ok2
                go_wp2_with fail
                clear q2 q3
                refine (isWord_no _ _ OK2.out).mono ?_
                rintro e w' ⟨rfl, rfl⟩
                have R := HA.out.out
                obtain ⟨t0, t1, t2, t3, t4, t5, t6, t7, t8⟩ := row9 R
                have fz0 := R.frozen 0; have fz1 := R.frozen 1; have fz2 := R.frozen 2; have fz3 := R.frozen 3; have fz4 := R.frozen 4; have fz5 := R.frozen 5; have fz6 := R.frozen 6; have fz7 := R.frozen 7; have fz8 := R.frozen 8
                have HB : Hid (Blw w _) := HA.out.blw
                clear R HA
                go_wp2
                refine bodyPost_ret (v := .tuple #[.agg (nine (fun _ => 0) none), .bool false]) (by simp [results, Try.results55, go_sem, t0, t1, t2, t3, t4, t5, t6, t7, t8]) rfl ⟨Or.inr ⟨fun g => ?_, rfl⟩, set9_blw HB.out (Nat.le_succ _) _ _ _ _ _ _ _ _ _⟩
                exact OK2.out (g.l j hlt).2
            · have OK1 : Hid (¬ cellOK (lc j)) := ok1
              clear ok1
              go_wp2_with fail
              clear q0 q1 q2 q3
              refine (isCell_no _ _ OK1.out).mono ?_
              rintro e w' ⟨rfl, rfl⟩
              have R := HA.out.out
              obtain ⟨t0, t1, t2, t3, t4, t5, t6, t7, t8⟩ := row9 R
              have fz0 := R.frozen 0; have fz1 := R.frozen 1; have fz2 := R.frozen 2; have fz3 := R.frozen 3; have fz4 := R.frozen 4; have fz5 := R.frozen 5; have fz6 := R.frozen 6; have fz7 := R.frozen 7; have fz8 := R.frozen 8
              have HB : Hid (Blw w _) := HA.out.blw
              clear R HA
              go_wp2
              refine bodyPost_ret (v := .tuple #[.agg (nine (fun _ => 0) none), .bool false]) (by simp [results, Try.results55, go_sem, t0, t1, t2, t3, t4, t5, t6, t7, t8]) rfl ⟨Or.inr ⟨fun g => ?_, rfl⟩, set9_blw HB.out (Nat.le_succ _) _ _ _ _ _ _ _ _ _⟩
              exact OK1.out (g.l j hlt).1
          · obtain rfl : j = k := by omega
            obtain ⟨s0, s1, s2, s3, s4, s5, s6, s7, s8⟩ := row9 HD.out.held.box
            simp only [hcell, show (0 : Nat) < 8 from by omega, show (1 : Nat) < 8 from by omega, show (2 : Nat) < 8 from by omega, show (3 : Nat) < 8 from by omega, show (4 : Nat) < 8 from by omega, show (5 : Nat) < 8 from by omega, show (6 : Nat) < 8 from by omega, show (7 : Nat) < 8 from by omega, if_true, show ¬ (8 : Nat) < 8 from by omega, if_false] at s0 s1 s2 s3 s4 s5 s6 s7 s8
            have R := HD.out.out
            obtain ⟨t0, t1, t2, t3, t4, t5, t6, t7, t8⟩ := row9 R
            have fz0 := R.frozen 0
            have fz1 := R.frozen 1
            have fz2 := R.frozen 2
            have fz3 := R.frozen 3
            have fz4 := R.frozen 4
            have fz5 := R.frozen 5
            have fz6 := R.frozen 6
            have fz7 := R.frozen 7
            have fz8 := R.frozen 8
            clear R
            have HB : Hid (Blw w wr) := HD.out.blw
            have HLG : Hid (LogAt wr (w.heap.size + 1 + 1) j lc lw) := HD.out.held.log
            have HO : Hid (∀ t, t < j → cellOK (lc t) ∧ wordOK (lw t)) := HD.out.ok
            have HDS : Hid (distinct j lc) := HD.out.d
            clear HD
            go_wp2
            refine bodyPost_ret (v := .tuple #[.agg (nine c (some (w.heap.size + 1 + 1))), .bool true]) (by simp [results, Try.results55, go_sem, t0, t1, t2, t3, t4, t5, t6, t7, t8]) rfl ⟨Or.inl ⟨w.heap.size + 1 + 1, ⟨rfl, HW.out, HO.out, HDS.out⟩, rfl, HLG.out.mod (set9_mod (X := fun x => x = w.heap.size + 1) _ rfl _ _ _ _ _ _ _ _ _) (by omega), by omega⟩, set9_blw HB.out (Nat.le_succ _) _ _ _ _ _ _ _ _ _⟩
    
  · have hd : ((n : Int) != 8) = true := by simp; omega
    have h0 := h.c.1
    clear h
    go_enter Try.func55, Try.ntmps55
    go_wp2
    refine bodyPost_ret (v := .tuple #[.agg (nine (fun _ => 0) none), .bool false]) (by simp [results, Try.results55, go_sem]) rfl ⟨Or.inr ⟨fun g => hn g.n, rfl⟩, ?_⟩
    exact ((Blw.refl _).alloc _).alloc _
end Go.Proofs.Ytagjfkkjmgfoiaa
