/- 'impl.holdLine' and 'impl.holdMemory': what they answer. -/
import Derived.Test.YtglllnklcnlcjaaNew
import Derived.Test.YtglllnklcnlcjaaGoodL
namespace Go.Proofs.Ytglllnklcnlcjaa
open Go.RowKit
set_option maxHeartbeats 400000 in
theorem isWord_yes (n : Int) (w : World) (h : wordOK n) : Calls Try.prog 60 #[.int .i64 n] w fun e w' => e = .returned (.bool true) ∧ w' = w := by
  obtain ⟨h1, h2⟩ := h
  go_enter Try.func60, Try.ntmps60
  go_wp2
  go_ret
  exact ⟨rfl, rfl⟩
set_option maxHeartbeats 400000 in
theorem isWord_no (n : Int) (w : World) (h : ¬ wordOK n) : Calls Try.prog 60 #[.int .i64 n] w fun e w' => e = .returned (.bool false) ∧ w' = w := by
  by_cases h1 : 0 ≤ n
  · have h2 : ¬ n ≤ 65535 := fun h3 => h ⟨h1, h3⟩
    clear h
    go_enter Try.func60, Try.ntmps60
    go_wp2
    go_ret
    exact ⟨rfl, rfl⟩
  · clear h
    have hd : decide (0 ≤ n) = false := by simpa using h1
    go_enter Try.func60, Try.ntmps60
    go_wp2
    go_ret
    exact ⟨rfl, rfl⟩
abbrev four (f : Nat → Int) : Array Value := #[.int .i64 (f 0), .int .i64 (f 1), .int .i64 (f 2), .int .i64 (f 3)]
theorem row4 {w : World} {b n : Nat} {f : Nat → Value} (r : Row w b n f) (h : 4 ≤ n) : w.cell? ⟨b, 0, none⟩ = some (f 0) ∧ w.cell? ⟨b, 1, none⟩ = some (f 1) ∧ w.cell? ⟨b, 2, none⟩ = some (f 2) ∧ w.cell? ⟨b, 3, none⟩ = some (f 3) :=
  ⟨r.cell (by omega), r.cell (by omega), r.cell (by omega), r.cell (by omega)⟩
theorem index4_0 (f : Nat → Int) (w : World) : (Instr.index 87 (.agg (four f)) (.int .i64 0)).run Try.prog w = .ok (.int .i64 (f 0)) w := by kernel_rfl
theorem index4_1 (f : Nat → Int) (w : World) : (Instr.index 87 (.agg (four f)) (.int .i64 1)).run Try.prog w = .ok (.int .i64 (f 1)) w := by kernel_rfl
theorem index4_2 (f : Nat → Int) (w : World) : (Instr.index 87 (.agg (four f)) (.int .i64 2)).run Try.prog w = .ok (.int .i64 (f 2)) w := by kernel_rfl
theorem index4_3 (f : Nat → Int) (w : World) : (Instr.index 87 (.agg (four f)) (.int .i64 3)).run Try.prog w = .ok (.int .i64 (f 3)) w := by kernel_rfl
theorem index4 (f : Nat → Int) (k : Nat) (hk : k < 4) (w : World) : (Instr.index 87 (.agg (four f)) (.int .i64 (k : Int))).run Try.prog w = .ok (.int .i64 (f k)) w := by
  match k, hk with
  | 0, _ => exact index4_0 f w
  | 1, _ => exact index4_1 f w
  | 2, _ => exact index4_2 f w
  | 3, _ => exact index4_3 f w
theorem row_four (w : World) (a b c d : Value) (t : TypeId) : Row (w.alloc (.cells #[a, b, c, d] t)) w.heap.size 4 (fun i => if i = 0 then a else if i = 1 then b else if i = 2 then c else d) :=
  ⟨_, t, heap_alloc_new _ _, by simp, fun i hi => by
    match i, hi with
    | 0, _ => rfl
    | 1, _ => rfl
    | 2, _ => rfl
    | 3, _ => rfl⟩
abbrev z4 : Array Value := #[.int .i64 0, .int .i64 0, .int .i64 0, .int .i64 0]
theorem row_z4 (w : World) (t : TypeId) : Row (w.alloc (.cells z4 t)) w.heap.size 4 (fun _ => .int .i64 0) := (row_four w _ _ _ _ t).congr fun i _ => by simp
/-- The three blocks that holdLine lays first. -/
theorem line_boxes (w : World) (v : Value) :
    let w0 := ((w.alloc (.cells #[v] 126)).alloc (.cells z4 87)).alloc (.cells z4 87)
    Blw w w0 ∧ w0.cell? ⟨w.heap.size, 0, none⟩ = some v ∧ Row w0 (w.heap.size + 1) 4 (fun _ => .int .i64 0) ∧ Row w0 (w.heap.size + 1 + 1) 4 (fun _ => .int .i64 0) ∧ w0.heap.size = w.heap.size + 1 + 1 + 1 := by
  intro w0
  refine ⟨(((Blw.refl _).alloc _).alloc _).alloc _, (((Blw.refl _).alloc _).alloc _).cell (by go_cell), ?_, ?_, by simp [w0]⟩
  · have := (row_z4 (w.alloc (.cells #[v] 126)) 87).blw ((Blw.refl _).alloc (.cells z4 87))
    rw [World.size_alloc] at this
    exact this
  · have := row_z4 ((w.alloc (.cells #[v] 126)).alloc (.cells z4 87)) 87
    rw [World.size_alloc, World.size_alloc] at this
    exact this
set_option maxHeartbeats 1600000 in
theorem holdLine_any (ao : Option Addr) (c n : Nat) (f : Nat → Int) (Y : Nat → Prop) (w : World) (h : IntsAt Y w ao n f) :
    Calls Try.prog 101 #[.agg #[.slice ao n c]] w fun e w' => ((lineOK n f ∧ e = .returned (.tuple #[.agg (four f), .bool true])) ∨ (¬ lineOK n f ∧ e = .returned (.tuple #[.agg z4, .bool false]))) ∧ Blw w w' := by
  by_cases hn : n = 4
  · subst hn
    obtain ⟨b, o, rfl, -, -⟩ := h.2 0 (by omega)
    have hc : ∀ i, i < 4 → w.cell? ⟨b, o + i, none⟩ = some (.int .i64 (f i)) := fun i hi => by
      obtain ⟨b', o', e, -, g⟩ := h.2 i hi
      simp only [Option.some.injEq, Addr.mk.injEq, and_true] at e
      rw [e.1, e.2]; exact g
    clear h
    go_enter Try.func101, Try.ntmps101
    go_wp2
    obtain ⟨hb0, p0, r1, r2, hz⟩ := line_boxes w (.slice (some ⟨b, o, none⟩) 4 c)
    revert hb0 p0 r1 r2 hz
    generalize ((w.alloc (.cells #[.slice (some ⟨b, o, none⟩) 4 c] 126)).alloc (.cells z4 87)).alloc (.cells z4 87) = w0
    intro hb0 p0 r1 r2 hz
    go_region_law (refine step_copy_fn rfl (.tmp 12) (.tmp 14) 28 28 rfl 3 Try.underlying28 info3s (w.heap.size + 1 + 1) 0 4 4 ⟨b, o, none⟩ 4 c rfl rfl 4 (fun t => .int .i64 (f t)) 4 (fun _ => .int .i64 0) rfl (fun j hj => by rw [Addr.add_mid]; exact hb0.cell (hc j hj)) (fun _ _ => rfl) r2 (by omega) ?_; intro w1 hr1 hm1 hz1)
    replace hm1 : Mod (fun x => x = w.heap.size + 1 + 1) w0 w1 := Mod.trans ((Blw.refl w0).drew.mod _) hm1
    replace r1 := r1.mod hm1 (by omega)
    replace r2 : Row w1 (w.heap.size + 1 + 1) 4 (fun t => .int .i64 (f t)) := hr1.congr fun i hi => by simp [hi]
    have hb1 : Blw w w1 := Mod.blw hb0 hm1 (fun i hi => by omega)
    obtain ⟨s0, s1, s2, s3⟩ := row4 r2 (by omega)
    obtain ⟨t0, t1, t2, t3⟩ := row4 r1 (by omega)
    have u0 := r1.frozen 0
    have u1 := r1.frozen 1
    have u2 := r1.frozen 2
    have u3 := r1.frozen 3
    have hne : w.heap.size + 1 + 1 < w1.heap.size := r2.lt
    clear hb0 p0 hz hc hr1 hm1 hz1 r1 r2
    go_wp2
    go_loop [17] (fun i => ∃ j : Nat, j ≤ 4 ∧ i = .int .i64 j ∧ ∀ t, t < j → wordOK (f t)) (fun i => 4 - (intOf i).toNat)
    case atStart => exact ⟨0, by omega, rfl, fun t ht => absurd ht (Nat.not_lt_zero _)⟩
    case round =>
      obtain ⟨j, hj, rfl, hw⟩ := hrel
      have HW : Hid (∀ t, t < j → wordOK (f t)) := hw
      clear hw
      by_cases hlt : j < 4
      · have hix := index4 f j hlt
        by_cases ok : wordOK (f j)
        · have OK : Hid (wordOK (f j)) := ok
          clear ok
          go_wp2_with fail
          refine (isWord_yes _ _ OK.out).mono ?_
          rintro e w' ⟨rfl, rfl⟩
          go_wp2
          go_round
          case rel => exact ⟨j + 1, by omega, by go_num, fun t ht => by
            by_cases e : t = j
            · subst e; exact OK.out
            · exact HW.out t (by omega)⟩
          case measure => simp [intOf]; omega
        · have OK : Hid (¬ wordOK (f j)) := ok
          clear ok
          go_wp2_with fail
          refine (isWord_no _ _ OK.out).mono ?_
          rintro e w' ⟨rfl, rfl⟩
          go_wp2
          refine bodyPost_ret (v := .tuple #[.agg z4, .bool false]) (by simp [results, Try.results101, go_sem, t0, t1, t2, t3]) rfl ⟨Or.inr ⟨fun g => OK.out (g.2 j hlt), rfl⟩, ?_⟩
          exact (((hb1.setCell (by show w.heap.size ≤ w.heap.size + 1; omega) _).setCell (by show w.heap.size ≤ w.heap.size + 1; omega) _).setCell (by show w.heap.size ≤ w.heap.size + 1; omega) _).setCell (by show w.heap.size ≤ w.heap.size + 1; omega) _
      · obtain rfl : j = 4 := by omega
        go_wp2
        refine bodyPost_ret (v := .tuple #[.agg (four f), .bool true]) (by simp [results, Try.results101, go_sem, t0, t1, t2, t3]) rfl ⟨Or.inl ⟨⟨rfl, HW.out⟩, rfl⟩, ?_⟩
        exact (((hb1.setCell (by show w.heap.size ≤ w.heap.size + 1; omega) _).setCell (by show w.heap.size ≤ w.heap.size + 1; omega) _).setCell (by show w.heap.size ≤ w.heap.size + 1; omega) _).setCell (by show w.heap.size ≤ w.heap.size + 1; omega) _
  · have hd : ((n : Int) != 4) = true := by simp; omega
    have h0 := h.1
    clear h
    go_enter Try.func101, Try.ntmps101
    go_wp2
    refine bodyPost_ret (v := .tuple #[.agg z4, .bool false]) (by simp [results, Try.results101, go_sem]) rfl ⟨Or.inr ⟨fun g => hn g.1, rfl⟩, ?_⟩
    exact ((Blw.refl _).alloc _).alloc _
end Go.Proofs.Ytglllnklcnlcjaa
