/- Merged by program, in this order: Hold, Eq4, HoldM, GoodS. -/
import Derived.Test.YtnbcjdoohmjghaaJoin2
/- 'impl.holdLine' and 'impl.holdMemory': what they answer. -/
namespace Go.Proofs.Ytnbcjdoohmjghaa
open Go.RowKit
set_option maxHeartbeats 400000 in
theorem isWord_yes (n : Int) (w : World) (h : wordOK n) : Calls Try.prog 95 #[.int .i64 n] w fun e w' => e = .returned (.bool true) ∧ w' = w := by
  obtain ⟨h1, h2⟩ := h
  go_enter Try.func95, Try.ntmps95
  go_wp2
  go_ret
  exact ⟨rfl, rfl⟩
set_option maxHeartbeats 400000 in
theorem isWord_no (n : Int) (w : World) (h : ¬ wordOK n) : Calls Try.prog 95 #[.int .i64 n] w fun e w' => e = .returned (.bool false) ∧ w' = w := by
  by_cases h1 : 0 ≤ n
  · have h2 : ¬ n ≤ 65535 := fun h3 => h ⟨h1, h3⟩
    clear h
    go_enter Try.func95, Try.ntmps95
    go_wp2
    go_ret
    exact ⟨rfl, rfl⟩
  · clear h
    have hd : decide (0 ≤ n) = false := by simpa using h1
    go_enter Try.func95, Try.ntmps95
    go_wp2
    go_ret
    exact ⟨rfl, rfl⟩
abbrev four (f : Nat → Int) : Array Value := #[.int .i64 (f 0), .int .i64 (f 1), .int .i64 (f 2), .int .i64 (f 3)]
theorem row4 {w : World} {b n : Nat} {f : Nat → Value} (r : Row w b n f) (h : 4 ≤ n) : w.cell? ⟨b, 0, none⟩ = some (f 0) ∧ w.cell? ⟨b, 1, none⟩ = some (f 1) ∧ w.cell? ⟨b, 2, none⟩ = some (f 2) ∧ w.cell? ⟨b, 3, none⟩ = some (f 3) :=
  ⟨r.cell (by omega), r.cell (by omega), r.cell (by omega), r.cell (by omega)⟩
theorem index4_0 (f : Nat → Int) (w : World) : (Instr.index 94 (.agg (four f)) (.int .i64 0)).run Try.prog w = .ok (.int .i64 (f 0)) w := by kernel_rfl
theorem index4_1 (f : Nat → Int) (w : World) : (Instr.index 94 (.agg (four f)) (.int .i64 1)).run Try.prog w = .ok (.int .i64 (f 1)) w := by kernel_rfl
theorem index4_2 (f : Nat → Int) (w : World) : (Instr.index 94 (.agg (four f)) (.int .i64 2)).run Try.prog w = .ok (.int .i64 (f 2)) w := by kernel_rfl
theorem index4_3 (f : Nat → Int) (w : World) : (Instr.index 94 (.agg (four f)) (.int .i64 3)).run Try.prog w = .ok (.int .i64 (f 3)) w := by kernel_rfl
theorem index4 (f : Nat → Int) (k : Nat) (hk : k < 4) (w : World) : (Instr.index 94 (.agg (four f)) (.int .i64 (k : Int))).run Try.prog w = .ok (.int .i64 (f k)) w := by
  match k, hk with
  | 0, _ => exact index4_0 f w
  | 1, _ => exact index4_1 f w
  | 2, _ => exact index4_2 f w
  | 3, _ => exact index4_3 f w
theorem row_four (w : World) (a b c d : Value) (t : TypeId) : Row (w.alloc (.cells #[a, b, c, d] t)) w.heap.size 4 (fun i => if i = 0 then a else if i = 1 then b else if i = 2 then c else d) :=
  ⟨_, t, heap_alloc_new _ _, by simp, fun i hi => by
    match i, hi with
    | 0, _ => rfl
    | 1, _ => rfl
    | 2, _ => rfl
    | 3, _ => rfl⟩
abbrev z4 : Array Value := #[.int .i64 0, .int .i64 0, .int .i64 0, .int .i64 0]
theorem row_z4 (w : World) (t : TypeId) : Row (w.alloc (.cells z4 t)) w.heap.size 4 (fun _ => .int .i64 0) := (row_four w _ _ _ _ t).congr fun i _ => by simp
/-- The three blocks that holdLine lays first. -/
theorem line_boxes (w : World) (v : Value) :
    let w0 := ((w.alloc (.cells #[v] 37)).alloc (.cells z4 94)).alloc (.cells z4 94)
    Blw w w0 ∧ w0.cell? ⟨w.heap.size, 0, none⟩ = some v ∧ Row w0 (w.heap.size + 1) 4 (fun _ => .int .i64 0) ∧ Row w0 (w.heap.size + 1 + 1) 4 (fun _ => .int .i64 0) ∧ w0.heap.size = w.heap.size + 1 + 1 + 1 := by
  intro w0
  refine ⟨(((Blw.refl _).alloc _).alloc _).alloc _, (((Blw.refl _).alloc _).alloc _).cell (by go_cell), ?_, ?_, by simp [w0]⟩
  · have := (row_z4 (w.alloc (.cells #[v] 37)) 94).blw ((Blw.refl _).alloc (.cells z4 94))
    rw [World.size_alloc] at this
    exact this
  · have := row_z4 ((w.alloc (.cells #[v] 37)).alloc (.cells z4 94)) 94
    rw [World.size_alloc, World.size_alloc] at this
    exact this
set_option maxHeartbeats 1600000 in
theorem holdLine_any (ao : Option Addr) (c n : Nat) (f : Nat → Int) (Y : Nat → Prop) (w : World) (h : IntsAt Y w ao n f) :
    Calls Try.prog 124 #[.agg #[.slice ao n c]] w fun e w' => ((lineOK n f ∧ e = .returned (.tuple #[.agg (four f), .bool true])) ∨ (¬ lineOK n f ∧ e = .returned (.tuple #[.agg z4, .bool false]))) ∧ Blw w w' := by
  by_cases hn : n = 4
  · subst hn
    obtain ⟨b, o, rfl, -, -⟩ := h.2 0 (by omega)
    have hc : ∀ i, i < 4 → w.cell? ⟨b, o + i, none⟩ = some (.int .i64 (f i)) := fun i hi => by
      obtain ⟨b', o', e, -, g⟩ := h.2 i hi
      simp only [Option.some.injEq, Addr.mk.injEq, and_true] at e
      rw [e.1, e.2]; exact g
    clear h
    go_enter Try.func124, Try.ntmps124
    go_wp2
    obtain ⟨hb0, p0, r1, r2, hz⟩ := line_boxes w (.slice (some ⟨b, o, none⟩) 4 c)
    revert hb0 p0 r1 r2 hz
    generalize ((w.alloc (.cells #[.slice (some ⟨b, o, none⟩) 4 c] 37)).alloc (.cells z4 94)).alloc (.cells z4 94) = w0
    intro hb0 p0 r1 r2 hz
    go_region_law (refine step_copy_fn rfl (.tmp 12) (.tmp 14) 27 27 rfl 3 Try.underlying27 info3s (w.heap.size + 1 + 1) 0 4 4 ⟨b, o, none⟩ 4 c rfl rfl 4 (fun t => .int .i64 (f t)) 4 (fun _ => .int .i64 0) rfl (fun j hj => by rw [Addr.add_mid]; exact hb0.cell (hc j hj)) (fun _ _ => rfl) r2 (by omega) ?_; intro w1 hr1 hm1 hz1)
    replace hm1 : Mod (fun x => x = w.heap.size + 1 + 1) w0 w1 := Mod.trans ((Blw.refl w0).drew.mod _) hm1
    replace r1 := r1.mod hm1 (by omega)
    replace r2 : Row w1 (w.heap.size + 1 + 1) 4 (fun t => .int .i64 (f t)) := hr1.congr fun i hi => by simp [hi]
    have hb1 : Blw w w1 := Mod.blw hb0 hm1 (fun i hi => by omega)
    obtain ⟨s0, s1, s2, s3⟩ := row4 r2 (by omega)
    obtain ⟨t0, t1, t2, t3⟩ := row4 r1 (by omega)
    have u0 := r1.frozen 0
    have u1 := r1.frozen 1
    have u2 := r1.frozen 2
    have u3 := r1.frozen 3
    have hne : w.heap.size + 1 + 1 < w1.heap.size := r2.lt
    clear hb0 p0 hz hc hr1 hm1 hz1 r1 r2
    go_wp2
    go_loop [17] (fun i => ∃ j : Nat, j ≤ 4 ∧ i = .int .i64 j ∧ ∀ t, t < j → wordOK (f t)) (fun i => 4 - (intOf i).toNat)
    case atStart => exact ⟨0, by omega, rfl, fun t ht => absurd ht (Nat.not_lt_zero _)⟩
    case round =>
      obtain ⟨j, hj, rfl, hw⟩ := hrel
      have HW : Hid (∀ t, t < j → wordOK (f t)) := hw
      clear hw
      by_cases hlt : j < 4
      · have hix := index4 f j hlt
        by_cases ok : wordOK (f j)
        · have OK : Hid (wordOK (f j)) := ok
          clear ok
          go_wp2_with fail
          refine (isWord_yes _ _ OK.out).mono ?_
          rintro e w' ⟨rfl, rfl⟩
          go_wp2
          go_round
          case rel => exact ⟨j + 1, by omega, by go_num, fun t ht => by
            by_cases e : t = j
            · subst e; exact OK.out
            · exact HW.out t (by omega)⟩
          case measure => simp [intOf]; omega
        · have OK : Hid (¬ wordOK (f j)) := ok
          clear ok
          go_wp2_with fail
          refine (isWord_no _ _ OK.out).mono ?_
          rintro e w' ⟨rfl, rfl⟩
          go_wp2
          refine bodyPost_ret (v := .tuple #[.agg z4, .bool false]) (by simp [results, Try.results124, go_sem, t0, t1, t2, t3]) rfl ⟨Or.inr ⟨fun g => OK.out (g.2 j hlt), rfl⟩, ?_⟩
          exact (((hb1.setCell (by show w.heap.size ≤ w.heap.size + 1; omega) _).setCell (by show w.heap.size ≤ w.heap.size + 1; omega) _).setCell (by show w.heap.size ≤ w.heap.size + 1; omega) _).setCell (by show w.heap.size ≤ w.heap.size + 1; omega) _
      · obtain rfl : j = 4 := by omega
        go_wp2
        refine bodyPost_ret (v := .tuple #[.agg (four f), .bool true]) (by simp [results, Try.results124, go_sem, t0, t1, t2, t3]) rfl ⟨Or.inl ⟨⟨rfl, HW.out⟩, rfl⟩, ?_⟩
        exact (((hb1.setCell (by show w.heap.size ≤ w.heap.size + 1; omega) _).setCell (by show w.heap.size ≤ w.heap.size + 1; omega) _).setCell (by show w.heap.size ≤ w.heap.size + 1; omega) _).setCell (by show w.heap.size ≤ w.heap.size + 1; omega) _
  · have hd : ((n : Int) != 4) = true := by simp; omega
    have h0 := h.1
    clear h
    go_enter Try.func124, Try.ntmps124
    go_wp2
    refine bodyPost_ret (v := .tuple #[.agg z4, .bool false]) (by simp [results, Try.results124, go_sem]) rfl ⟨Or.inr ⟨fun g => hn g.1, rfl⟩, ?_⟩
    exact ((Blw.refl _).alloc _).alloc _
end Go.Proofs.Ytnbcjdoohmjghaa
/- Arrays of four words held against each other. -/
namespace Go.Proofs.Ytnbcjdoohmjghaa
open Go.RowKit
theorem part3 (w : World) (f : Nat → Int) (i : Nat) (hi : i < 4) : (part 3 (four f) i).run Try.prog w = .ok (.int .i64 (f i)) w := by
  match i, hi with
  | 0, _ => exact (show (part 3 (four f) 0).run Try.prog w = .ok (.int .i64 (f 0)) w by kernel_rfl)
  | 1, _ => exact (show (part 3 (four f) 1).run Try.prog w = .ok (.int .i64 (f 1)) w by kernel_rfl)
  | 2, _ => exact (show (part 3 (four f) 2).run Try.prog w = .ok (.int .i64 (f 2)) w by kernel_rfl)
  | 3, _ => exact (show (part 3 (four f) 3).run Try.prog w = .ok (.int .i64 (f 3)) w by kernel_rfl)
theorem size3 (w : World) : (sizeOf 3).run Try.prog w = .ok 1 w := by kernel_rfl
theorem eqArr (d : Nat) (f g : Nat → Int) (w : World) (H : ∀ a b w, (Op.equalIn d 3 (.int .i64 a) (.int .i64 b)).run Try.prog w = .ok (a == b) w) :
    (Op.equalIn (d + 1) 94 (.agg (four f)) (.agg (four g))).run Try.prog w = .ok ((f 0 == g 0) && ((f 1 == g 1) && ((f 2 == g 2) && (f 3 == g 3)))) w := by
  have p0 := fun w => part3 w f 0 (by omega)
  have p1 := fun w => part3 w f 1 (by omega)
  have p2 := fun w => part3 w f 2 (by omega)
  have p3 := fun w => part3 w f 3 (by omega)
  have q0 := fun w => part3 w g 0 (by omega)
  have q1 := fun w => part3 w g 1 (by omega)
  have q2 := fun w => part3 w g 2 (by omega)
  have q3 := fun w => part3 w g 3 (by omega)
  generalize four f = xs at *
  generalize four g = ys at *
  simp only [Op.equalIn, Sem.run_bind, run_underlying Try.underlying94, Result.andThen_ok, size3]
  by_cases h0 : f 0 = g 0 <;> by_cases h1 : f 1 = g 1 <;> by_cases h2 : f 2 = g 2 <;> by_cases h3 : f 3 = g 3 <;>
    simp [Sem.run_bind, p0, p1, p2, p3, q0, q1, q2, q3, H, h0, h1, h2, h3, List.range']
theorem neq75 (f g : Nat → Int) (w : World) : (binOp .neq 94 (.agg (four f)) (.agg (four g))).run Try.prog w = .ok (.bool (!((f 0 == g 0) && ((f 1 == g 1) && ((f 2 == g 2) && (f 3 == g 3)))))) w := by
  rw [run_neq_struct, eqArr 9999 f g w (fun a b w => run_equalIn_int w 9998 3 .i64 .i64 a b Try.underlying3)]
  rfl
theorem neq75_same (f g : Nat → Int) (h : ∀ j, j < 4 → f j = g j) (w : World) : (binOp .neq 94 (.agg (four f)) (.agg (four g))).run Try.prog w = .ok (.bool false) w := by
  rw [neq75, h 0 (by omega), h 1 (by omega), h 2 (by omega), h 3 (by omega)]
  simp
theorem neq75_other (f g : Nat → Int) (h : ¬ ∀ j, j < 4 → f j = g j) (w : World) : (binOp .neq 94 (.agg (four f)) (.agg (four g))).run Try.prog w = .ok (.bool true) w := by
  rw [neq75]
  have : ((f 0 == g 0) && ((f 1 == g 1) && ((f 2 == g 2) && (f 3 == g 3)))) = false := by
    rw [Bool.eq_false_iff]
    intro hh
    simp at hh
    refine h fun j hj => ?_
    match j, hj with
    | 0, _ => exact hh.1
    | 1, _ => exact hh.2.1
    | 2, _ => exact hh.2.2.1
    | 3, _ => exact hh.2.2.2
  rw [this]
  rfl
end Go.Proofs.Ytnbcjdoohmjghaa
/- 'impl.holdMemory': what it answers. -/
namespace Go.Proofs.Ytnbcjdoohmjghaa
open Go.RowKit
set_option linter.unusedSimpArgs false
theorem info79 : (Try.prog.info? 98).map (·.size) = some 108 := by kernel_rfl
theorem size79 : Try.zeroCells98.size = 108 := by kernel_rfl
theorem one79 : Try.zeroCells98.all (·.oneCell') = true := by kernel_rfl
theorem build79 (w : World) : (Instr.build 98 #[]).run Try.prog w = .ok (.agg Try.zeroCells98) w := run_build w 98 #[] _ (by kernel_rfl)
theorem wpList_build79 {w : World} {ops : Array Oper} {rest : List Oper} {o : Oper} {a : Act} {Q : Exit → Act → World → Prop} (hgd : o.guard = none) (ho : o.op = .build 98 #[])
    (h : wpList Try.prog ops Q rest (a.put o.dst (.agg Try.zeroCells98)) w) : wpList Try.prog ops Q (o :: rest) a w := by
  refine wpList_plain hgd fun K hK => ?_
  unfold Oper.wp execOp
  simp only [ho, List.map_toArray, List.map_nil, Sem.run_bind, build79, Result.andThen_ok, Sem.run_pure]
  exact hK _ _ h
theorem there_row {w : World} {b n : Nat} {f : Nat → Value} (r : Row w b n f) {o m : Nat} (h : o + m ≤ n) : w.there b o m := fun j hj => ⟨by rw [r.cell (by omega)]; rfl, r.frozen _⟩
/-- A row behind a store of many cells. -/
theorem row_setCells {w : World} {b n : Nat} {f : Nat → Value} (r : Row w b n f) (o : Nat) (cs : List Value) (g : Nat → Value) (hg : ∀ j, j < cs.length → cs[j]? = some (g j)) (h : o + cs.length ≤ n) :
    Row (w.setCells b o cs) b n (fun i => if o ≤ i ∧ i < o + cs.length then g (i - o) else f i) ∧ Mod (fun x => x = b) w (w.setCells b o cs) ∧ (w.setCells b o cs).heap.size = w.heap.size := by
  induction cs generalizing w o f g with
  | nil =>
    refine ⟨r.congr fun i hi => ?_, Mod.refl _ _, rfl⟩
    have : ¬ (o ≤ i ∧ i < o + ([] : List Value).length) := by simp only [List.length_nil]; omega
    rw [if_neg this]
  | cons c cs ih =>
    have r1 := r.set o c
    obtain ⟨h1, h2, h3⟩ := ih (w := w.setCell ⟨b, o, none⟩ c) r1 (o + 1) (fun j => g (j + 1)) (fun j hj => by simpa using hg (j + 1) (by simpa using hj)) (by simp only [List.length_cons] at h; omega)
    have hc : c = g 0 := by simpa using hg 0 (by simp)
    refine ⟨h1.congr fun i hi => ?_, (Mod.setCell (X := fun x => x = b) w (p := ⟨b, o, none⟩) rfl _).trans h2, by rw [World.setCells, h3]; simp⟩
    simp only [List.length_cons]
    by_cases e1 : o + 1 ≤ i ∧ i < o + 1 + cs.length
    · rw [if_pos e1, if_pos (by omega), show i - (o + 1) + 1 = i - o by omega]
    · rw [if_neg e1]
      by_cases e2 : i = o
      · subst e2
        rw [if_pos rfl, if_pos (by omega), hc, Nat.sub_self]
      · rw [if_neg e2, if_neg (by omega)]
/-- A store of a whole array into a row. -/
theorem wpList_store_row {w : World} {ops : Array Oper} {rest : List Oper} {op : Oper} {a : Act} {Q : Exit → Act → World → Prop} (hgd : op.guard = none) (ty : TypeId) (x y : Operand) (ho : op.op = .store ty x y)
    (b o : Nat) (cells : Array Value) (hx : a.eval x = .pointer (some ⟨b, o, none⟩)) (hy : a.eval y = .agg cells) (n : Nat) (f g : Nat → Value) (r : Row w b n f) (hfit : o + cells.size ≤ n)
    (hi : (Try.prog.info? ty).map (·.size) = some cells.size) (h1 : cells.all (·.oneCell') = true) (hg : ∀ j, j < cells.size → cells[j]? = some (g j))
    (h : ∀ w', Row w' b n (fun i => if o ≤ i ∧ i < o + cells.size then g (i - o) else f i) → Mod (fun x => x = b) w w' → w'.heap.size = w.heap.size → wpList Try.prog ops Q rest (a.put op.dst undef) w') :
    wpList Try.prog ops Q (op :: rest) a w := by
  obtain ⟨q1, q2, q3⟩ := row_setCells r o cells.toList g (fun j hj => by simpa using hg j (by simpa using hj)) (by simpa using hfit)
  refine wpList_store_mid hgd ty x y ho b o cells hx hy (there_row r hfit) hi h1 (h _ ?_ q2 q3)
  simpa using q1
/-- The two blocks that holdMemory lays first. -/
theorem hold_boxes (w : World) (a b c : Value) :
    let w0 := (w.alloc (.cells #[a, b, c] 26)).alloc (.cells Try.zeroCells98 98)
    Blw w w0 ∧ Row w0 w.heap.size 3 (fun i => if i = 0 then a else if i = 1 then b else c) ∧ Row w0 (w.heap.size + 1) 108 (hcell zeros zeros (fun _ => false)) ∧ w0.heap.size = w.heap.size + 1 + 1 := by
  intro w0
  refine ⟨((Blw.refl _).alloc _).alloc _, (row_mem w a b c 26).blw ((Blw.refl _).alloc _), ?_, by simp [w0]⟩
  have := row79 (w.alloc (.cells #[a, b, c] 26))
  rw [World.size_alloc] at this
  exact this
theorem results53 {w : World} {B : Nat} {s c : Nat → Nat → Int} {d : Nat → Bool} {tmps : Array Value} {b : Bool} {cs : Array Value} (r : Row w B 108 (hcell s c d)) (h2 : tmps[2]? = some (.pointer (some ⟨B, 0, none⟩))) (h3 : tmps[3]? = some (.bool b)) (hs : cs.size = 108) (hc : ∀ i, i < 108 → cs[i]? = some (hcell s c d i)) :
    (results Try.f76 tmps).run Try.prog w = .ok (.tuple #[.agg cs, .bool b]) w := by
  have hl : (loadVar 98 ⟨B, 0, none⟩).run Try.prog w = .ok (.agg cs) w := by
    have := run_loadVar_mid (P := Try.prog) w B 0 98 cs.toList _ (fun j v hv => by
      have hj : j < 108 := by
        have := (List.getElem?_eq_some_iff.1 hv).1
        simp at this; omega
      rw [Nat.zero_add, r.cell hj, ← hc j hj]
      simpa using hv) Try.underlying98 rfl (by rw [info79]; simp [hs])
    simpa using this
  simp [results, Try.results76, h2, h3, asAddr, hl]
theorem cell79 : ∀ j, j < Try.zeroCells98.size → Try.zeroCells98[j]? = some (hcell zeros zeros (fun _ => false) j) := by
  rw [zero79]; intro j hj; simp at hj; simp [hj]
theorem zero_row {w : World} {B : Nat} {f : Nat → Value} (h : Row w B 108 (fun i => if 0 ≤ i ∧ i < 0 + Try.zeroCells98.size then hcell zeros zeros (fun _ => false) (i - 0) else f i)) : Row w B 108 (hcell zeros zeros (fun _ => false)) :=
  h.congr fun i hi => by rw [if_pos ⟨Nat.zero_le _, by rw [size79]; omega⟩, Nat.sub_zero]
set_option maxHeartbeats 1600000 in
theorem holdMemory_short (m : MV) (M : MD) (Y : Nat → Prop) (w : World) (h : MemAt Y w m M) (hne : ¬ (M.n1 = 12 ∧ M.n2 = 12 ∧ M.n3 = 12)) :
    Calls Try.prog 76 #[m.val M] w fun e w' => e = .returned (.tuple #[.agg Try.zeroCells98, .bool false]) ∧ Blw w w' := by
  obtain ⟨s, c, d⟩ := h
  obtain ⟨a1, a2, a3, c1, c2, c3⟩ := m
  obtain ⟨n1, n2, n3, l1, l2, v1, v2, dd⟩ := M
  have z1 := s.1
  have z2 := c.1
  have z3 := d.1
  simp only [MV.val] at *
  obtain ⟨hb0, rB, r1, hz⟩ := hold_boxes w (.slice a1 n1 c1) (.slice a2 n2 c2) (.slice a3 n3 c3)
  clear s c d rB hz
  by_cases h1 : n1 = 12
  · subst h1
    by_cases h2 : n2 = 12
    · subst h2
      have hd : (((n3 : Nat) : Int) != 12) = true := by simp; omega
      clear hne
      go_enter Try.func76, Try.ntmps76
      go_wp2_with (first | (refine wpList_build79 rfl rfl ?_) | (refine wpList_store_row rfl 98 (.tmp 2) (.tmp 25) rfl (w.heap.size + 1) 0 Try.zeroCells98 rfl rfl 108 _ (hcell zeros zeros (fun _ => false)) r1 (by rw [size79]; omega) (by rw [size79]; exact info79) one79 cell79 ?_; intro w1 q1 q2 q3))
      refine bodyPost_ret (v := .tuple #[.agg Try.zeroCells98, .bool false]) (results53 (zero_row (by assumption)) rfl rfl size79 (by rw [← size79]; exact cell79)) rfl ⟨rfl, Mod.blw hb0 (by assumption) (fun i hi => by omega)⟩
    · have hd : (((n2 : Nat) : Int) != 12) = true := by simp; omega
      clear hne
      go_enter Try.func76, Try.ntmps76
      go_wp2_with (first | (refine wpList_build79 rfl rfl ?_) | (refine wpList_store_row rfl 98 (.tmp 2) (.tmp 25) rfl (w.heap.size + 1) 0 Try.zeroCells98 rfl rfl 108 _ (hcell zeros zeros (fun _ => false)) r1 (by rw [size79]; omega) (by rw [size79]; exact info79) one79 cell79 ?_; intro w1 q1 q2 q3))
      refine bodyPost_ret (v := .tuple #[.agg Try.zeroCells98, .bool false]) (results53 (zero_row (by assumption)) rfl rfl size79 (by rw [← size79]; exact cell79)) rfl ⟨rfl, Mod.blw hb0 (by assumption) (fun i hi => by omega)⟩
  · have hd : (((n1 : Nat) : Int) != 12) = true := by simp; omega
    clear hne
    go_enter Try.func76, Try.ntmps76
    go_wp2_with (first | (refine wpList_build79 rfl rfl ?_) | (refine wpList_store_row rfl 98 (.tmp 2) (.tmp 25) rfl (w.heap.size + 1) 0 Try.zeroCells98 rfl rfl 108 _ (hcell zeros zeros (fun _ => false)) r1 (by rw [size79]; omega) (by rw [size79]; exact info79) one79 cell79 ?_; intro w1 q1 q2 q3))
    refine bodyPost_ret (v := .tuple #[.agg Try.zeroCells98, .bool false]) (results53 (zero_row (by assumption)) rfl rfl size79 (by rw [← size79]; exact cell79)) rfl ⟨rfl, Mod.blw hb0 (by assumption) (fun i hi => by omega)⟩
theorem row_line (w : World) (f : Nat → Int) (t : TypeId) : Row (w.alloc (.cells (four f) t)) w.heap.size 4 (fun i => .int .i64 (f i)) :=
  (row_four w _ _ _ _ t).congr fun i hi => by
    match i, hi with
    | 0, _ => rfl
    | 1, _ => rfl
    | 2, _ => rfl
    | 3, _ => rfl
theorem one_four (f : Nat → Int) : (four f).all (·.oneCell') = true := by kernel_rfl
theorem info75 : (Try.prog.info? 94).map (·.size) = some 4 := by kernel_rfl
theorem cell_four (f : Nat → Int) : ∀ j, j < (four f).size → (four f)[j]? = some (.int .i64 (f j)) := fun j hj => by
  have hj' : j < 4 := hj
  match j, hj' with
  | 0, _ => rfl
  | 1, _ => rfl
  | 2, _ => rfl
  | 3, _ => rfl
/-- The same as an operation of a region that draws its order. -/
theorem wp_store_row {w : World} {op : Oper} {a : Act} {K : Act → World → Prop} {Q : Exit → Act → World → Prop} (ty : TypeId) (x y : Operand) (ho : op.op = .store ty x y)
    (b o : Nat) (cells : Array Value) (hx : a.eval x = .pointer (some ⟨b, o, none⟩)) (hy : a.eval y = .agg cells) (n : Nat) (f g : Nat → Value) (r : Row w b n f) (hfit : o + cells.size ≤ n)
    (hi : (Try.prog.info? ty).map (·.size) = some cells.size) (h1 : cells.all (·.oneCell') = true) (hg : ∀ j, j < cells.size → cells[j]? = some (g j))
    (h : ∀ w', Row w' b n (fun i => if o ≤ i ∧ i < o + cells.size then g (i - o) else f i) → Mod (fun x => x = b) w w' → w'.heap.size = w.heap.size → K (a.put op.dst undef) w') :
    op.wp Try.prog a w K Q := by
  obtain ⟨q1, q2, q3⟩ := row_setCells r o cells.toList g (fun j hj => by simpa using hg j (by simpa using hj)) (by simpa using hfit)
  refine wp_store_mid ty x y ho b o cells hx hy (there_row r hfit) hi h1 (h _ ?_ q2 q3)
  simpa using q1
/-- What holds in holdMemory behind k lines. -/
structure Holding (w wr : World) (k : Nat) (v1 v2 : Nat → Nat → Int) (d : Nat → Bool) (a b c : Value) : Prop where
  blw : Blw w wr
  box : Row wr w.heap.size 3 (fun i => if i = 0 then a else if i = 1 then b else c)
  res : Row wr (w.heap.size + 1) 108 (hcell zeros zeros (fun _ => false))
  cur : Row wr (w.heap.size + 1 + 1) 108 (hcell (fun i j => if i < k then v1 i j else 0) (fun i j => if i < k then v2 i j else 0) d)

theorem lines_fixed {Y : Nat → Prop} {w : World} {b o n : Nat} {len : Nat → Nat} {v : Nat → Nat → Int} (h : LinesAt Y w (some ⟨b, o, none⟩) n len v) : ∀ k, k < n → ∃ e ce, w.cell? ⟨b, o + k, none⟩ = some (.slice e (len k) ce) ∧ IntsAt Y w e (len k) (v k) := fun k hk => by
  obtain ⟨b', o', e, ce, h1, -, h2, h3⟩ := h.2 k hk
  simp only [Option.some.injEq, Addr.mk.injEq, and_true] at h1
  exact ⟨e, ce, by rw [h1.1, h1.2]; exact h2, h3⟩
theorem bools_fixed {Y : Nat → Prop} {w : World} {b o n : Nat} {f : Nat → Bool} (h : BoolsAt Y w (some ⟨b, o, none⟩) n f) : ∀ k, k < n → w.cell? ⟨b, o + k, none⟩ = some (.bool (f k)) := fun k hk => by
  obtain ⟨b', o', h1, -, h2⟩ := h.2 k hk
  simp only [Option.some.injEq, Addr.mk.injEq, and_true] at h1
  rw [h1.1, h1.2]; exact h2
theorem get3h {w : World} {B : Nat} {a b c : Value} (r : Row w B 3 (fun i => if i = 0 then a else if i = 1 then b else c)) : w.cell? ⟨B, 0, none⟩ = some a ∧ w.cell? ⟨B, 1, none⟩ = some b ∧ w.cell? ⟨B, 2, none⟩ = some c :=
  ⟨r.cell (i := 0) (by omega), r.cell (i := 1) (by omega), r.cell (i := 2) (by omega)⟩
theorem holding_start {w wA wB : World} {v1 v2 : Nat → Nat → Int} {d : Nat → Bool} {a b c : Value} (hb : Blw w wA) (rB : Row wA w.heap.size 3 (fun i => if i = 0 then a else if i = 1 then b else c)) (r1 : Row wA (w.heap.size + 1) 108 (hcell zeros zeros (fun _ => false)))
    (hr : Row wB (w.heap.size + 1 + 1) 108 (fun i => if 96 ≤ i ∧ i < 96 + 12 then .bool (d (i - 96)) else hcell zeros zeros (fun _ => false) i)) (hm : Mod (fun x => x = w.heap.size + 1 + 1) wA wB) : Holding w wB 0 v1 v2 d a b c := by
  refine ⟨Mod.blw hb hm (fun i hi => by omega), rB.mod hm (by omega), r1.mod hm (by omega), hr.congr fun i hi => ?_⟩
  by_cases h : 96 ≤ i
  · rw [if_pos ⟨h, by omega⟩]
    have h1 : ¬ i < 48 := by omega
    have h2 : ¬ i < 96 := by omega
    simp only [hcell, if_neg h1, if_neg h2]
  · rw [if_neg (by omega)]
    have h2 : i < 96 := by omega
    simp [hcell, h2]
theorem holding_step {w wX w9 : World} {k : Nat} {v1 v2 : Nat → Nat → Int} {d : Nat → Bool} {a b c : Value} (hb : Blw w wX) (rB : Row wX w.heap.size 3 (fun i => if i = 0 then a else if i = 1 then b else c)) (r1 : Row wX (w.heap.size + 1) 108 (hcell zeros zeros (fun _ => false)))
    (hr : Row w9 (w.heap.size + 1 + 1) 108 (fun i => if 48 + k * 4 ≤ i ∧ i < 48 + k * 4 + (four (v2 k)).size then .int .i64 (v2 k (i - (48 + k * 4))) else if k * 4 ≤ i ∧ i < k * 4 + (four (v1 k)).size then .int .i64 (v1 k (i - k * 4)) else hcell (fun i j => if i < k then v1 i j else 0) (fun i j => if i < k then v2 i j else 0) d i))
    (hm : Mod (fun x => x = w.heap.size + 1 + 1) wX w9) (hk12 : k < 12) : Holding w w9 (k + 1) v1 v2 d a b c := by
  have z1 : (four (v1 k)).size = 4 := rfl
  have z2 : (four (v2 k)).size = 4 := rfl
  rw [z1, z2] at hr
  refine ⟨Mod.blw hb hm (fun i hi => by omega), rB.mod hm (by omega), r1.mod hm (by omega), hr.congr fun i hi => ?_⟩
  by_cases h48 : i < 48
  · rw [if_neg (by omega)]
    by_cases hk : k * 4 ≤ i ∧ i < k * 4 + 4
    · have e1 : i / 4 = k := by omega
      have e2 : i - k * 4 = i % 4 := by omega
      rw [if_pos hk, e2]
      simp [hcell, h48, e1]
    · rw [if_neg hk]
      by_cases e : i / 4 < k
      · have e3 : i / 4 < k + 1 := by omega
        simp only [hcell, if_pos h48, if_pos e, if_pos e3]
      · have e3 : ¬ i / 4 < k + 1 := by omega
        simp only [hcell, if_pos h48, if_neg e, if_neg e3]
  · by_cases h96 : i < 96
    · by_cases hk : 48 + k * 4 ≤ i ∧ i < 48 + k * 4 + 4
      · have e1 : (i - 48) / 4 = k := by omega
        have e2 : i - (48 + k * 4) = (i - 48) % 4 := by omega
        rw [if_pos hk, e2]
        simp [hcell, h48, h96, e1]
      · rw [if_neg hk]
        by_cases hq : k * 4 ≤ i ∧ i < k * 4 + 4
        · exact absurd hq (by omega)
        · rw [if_neg hq]
          by_cases e : (i - 48) / 4 < k
          · have e3 : (i - 48) / 4 < k + 1 := by omega
            simp only [hcell, if_neg h48, if_pos h96, if_pos e, if_pos e3]
          · have e3 : ¬ (i - 48) / 4 < k + 1 := by omega
            simp only [hcell, if_neg h48, if_pos h96, if_neg e, if_neg e3]
    · rw [if_neg (by omega), if_neg (by omega)]
      simp only [hcell, if_neg h48, if_neg h96]
theorem full_row {w : World} {B : Nat} {v1 v2 : Nat → Nat → Int} {d : Nat → Bool} (r : Row w B 108 (hcell (fun i j => if i < 12 then v1 i j else 0) (fun i j => if i < 12 then v2 i j else 0) d)) : Row w B 108 (hcell v1 v2 d) :=
  r.congr fun i hi => by
    by_cases h : i < 48
    · have : i / 4 < 12 := by omega
      simp [hcell, h, this]
    · by_cases h2 : i < 96
      · have : (i - 48) / 4 < 12 := by omega
        simp [hcell, h, h2, this]
      · simp [hcell, h, h2]
theorem hcell_one (s c : Nat → Nat → Int) (d : Nat → Bool) (i : Nat) : (hcell s c d i).oneCell' = true := by
  unfold hcell
  split
  · rfl
  · split <;> rfl
theorem one_cells {cs : List Value} {s c : Nat → Nat → Int} {d : Nat → Bool} (hl : cs.length = 108) (h : ∀ j, j < 108 → cs.toArray[j]? = some (hcell s c d (0 + j))) : cs.toArray.all (·.oneCell') = true :=
  all_oneCell_toArray fun v hv => by
    obtain ⟨j, hj, rfl⟩ := List.getElem_of_mem hv
    have := h j (by omega)
    simp [hj] at this
    rw [this]
    exact hcell_one _ _ _ _
theorem one_cells' {cs : Array Value} {s c : Nat → Nat → Int} {d : Nat → Bool} (hl : cs.size = 108) (h : ∀ j, j < 108 → cs[j]? = some (hcell s c d j)) : cs.all (·.oneCell') = true :=
  Array.all_eq_true_iff_forall_mem.2 fun v hv => by
    obtain ⟨j, hj, rfl⟩ := Array.getElem_of_mem hv
    have := h j (by omega)
    simp [hj] at this
    rw [this]
    exact hcell_one _ _ _ _
theorem whole_row {w : World} {B : Nat} {cs : List Value} {f : Nat → Value} {g : Nat → Value} (hl : cs.length = 108) (h : Row w B 108 (fun i => if 0 ≤ i ∧ i < 0 + cs.toArray.size then g (i - 0) else f i)) : Row w B 108 g :=
  h.congr fun i hi => by rw [if_pos ⟨Nat.zero_le _, by simp [hl]; omega⟩, Nat.sub_zero]
set_option maxRecDepth 100000 in
set_option maxHeartbeats 1600000 in
theorem holdMemory_full (m : MV) (M : MD) (Y : Nat → Prop) (w : World) (h : MemAt Y w m M) (g1 : M.n1 = 12) (g2 : M.n2 = 12) (g3 : M.n3 = 12) :
    Calls Try.prog 76 #[m.val M] w fun e w' => ((M.Good ∧ ∃ cs : Array Value, cs.size = 108 ∧ (∀ i, i < 108 → cs[i]? = some (hcell M.v1 M.v2 M.d i)) ∧ e = .returned (.tuple #[.agg cs, .bool true])) ∨ (¬ M.Good ∧ e = .returned (.tuple #[.agg Try.zeroCells98, .bool false]))) ∧ Blw w w' := by
  obtain ⟨s, c, d⟩ := h
  obtain ⟨a1, a2, a3, c1, c2, c3⟩ := m
  obtain ⟨n1, n2, n3, l1, l2, v1, v2, dd⟩ := M
  simp only at g1 g2 g3
  subst g1 g2 g3
  simp only [MV.val] at *
  go_enter Try.func76, Try.ntmps76
  go_wp2
  obtain ⟨hb0, rB, r1, hz⟩ := hold_boxes w (.slice a1 12 c1) (.slice a2 12 c2) (.slice a3 12 c3)
  revert hb0 rB r1 hz
  generalize (w.alloc (.cells #[.slice a1 12 c1, .slice a2 12 c2, .slice a3 12 c3] 26)).alloc (.cells Try.zeroCells98 98) = w0
  intro hb0 rB r1 hz
  obtain ⟨b1, o1, e0, ce0, rfl, -⟩ := s.2 0 (by omega)
  obtain ⟨b2, o2, e0', ce0', rfl, -⟩ := c.2 0 (by omega)
  obtain ⟨b3, o3, rfl, -⟩ := d.2 0 (by omega)
  have hs := lines_fixed s
  have hc := lines_fixed c
  have hd := bools_fixed d
  clear s c d e0 ce0 e0' ce0'
  have hbA : Blw w0 (w0.alloc (.cells Try.zeroCells98 98)) := (Blw.refl _).alloc _
  have rH := row79 w0
  rw [hz] at rH
  revert hbA rH
  generalize w0.alloc (.cells Try.zeroCells98 98) = wA
  intro hbA rH
  replace rB := rB.blw hbA
  replace r1 := r1.blw hbA
  replace hb0 := hb0.trans hbA
  clear hbA hz
  have q2 := (get3h rB).2.2
  go_region_law (refine step_copy_fn rfl (.tmp 27) (.tmp 29) 24 24 rfl 4 Try.underlying24 info4s (w.heap.size + 1 + 1) 96 12 12 ⟨b3, o3, none⟩ 12 c3 rfl rfl 12 (fun t => .bool (dd t)) 108 (hcell zeros zeros (fun _ => false)) rfl (fun j hj => by rw [Addr.add_mid]; exact hb0.cell (hd j hj)) (fun _ _ => rfl) rH (by omega) ?_; intro wB hrB hmB hzB)
  replace hmB : Mod (fun x => x = w.heap.size + 1 + 1) wA wB := Mod.trans ((Blw.refl wA).drew.mod _) hmB
  have G0 : Holding w wB 0 v1 v2 dd (.slice (some ⟨b1, o1, none⟩) 12 c1) (.slice (some ⟨b2, o2, none⟩) 12 c2) (.slice (some ⟨b3, o3, none⟩) 12 c3) := holding_start hb0 rB r1 hrB hmB
  clear hb0 rB r1 rH q2 hrB hmB hzB
  go_wp2
  go_loopw [31] (fun i wr => ∃ k : Nat, k ≤ 12 ∧ i = .int .i64 k ∧ (∀ j, j < k → MD.OkAt ⟨12, 12, 12, l1, l2, v1, v2, dd⟩ j) ∧ Holding w wr k v1 v2 dd (.slice (some ⟨b1, o1, none⟩) 12 c1) (.slice (some ⟨b2, o2, none⟩) 12 c2) (.slice (some ⟨b3, o3, none⟩) 12 c3)) (fun i _ => 12 - (intOf i).toNat)
  case atStart => exact ⟨0, by omega, rfl, fun j hj => absurd hj (Nat.not_lt_zero _), G0⟩
  case round =>
    obtain ⟨k, hk, rfl, hok, G⟩ := hrel
    clear G0
    by_cases hlt : k < 12
    · obtain ⟨e1, ce1, g1, k1⟩ := hs k hlt
      obtain ⟨e2, ce2, g2, k2⟩ := hc k hlt
      replace g1 := G.blw.cell g1
      have HOK : Hid (∀ j, j < k → MD.OkAt ⟨12, 12, 12, l1, l2, v1, v2, dd⟩ j) := hok
      clear hs hc hd hok
      have q0 := (get3h G.box).1
      go_wp2_with fail
      refine (holdLine_any _ _ _ _ Y _ (k1.blw G.blw)).mono ?_
      rintro e w1 ⟨hr, hb1⟩
      rcases hr with ⟨ok1, rfl⟩ | ⟨bad1, rfl⟩
      · have q1 : ∀ o, (w1.alloc o).cell? ⟨w.heap.size, 1, none⟩ = some (.slice (some ⟨b2, o2, none⟩) 12 c2) := fun o => (hb1.alloc o).cell (get3h G.box).2.1
        have g2' : ∀ o, (w1.alloc o).cell? ⟨b2, o2 + k, none⟩ = some (.slice e2 (l2 k) ce2) := fun o => (hb1.alloc o).cell (G.blw.cell g2)
        go_wp2_with fail
        clear q0 q1 g2' g1
        obtain ⟨hbS, rS, hzS⟩ : Blw w1 (w1.alloc (.cells (four (v1 k)) 94)) ∧ Row (w1.alloc (.cells (four (v1 k)) 94)) w1.heap.size 4 (fun i => .int .i64 (v1 k i)) ∧ w1.heap.size < (w1.alloc (.cells (four (v1 k)) 94)).heap.size := ⟨(Blw.refl _).alloc _, row_line w1 (v1 k) 94, by simp⟩
        revert hbS rS hzS
        generalize w1.alloc (.cells (four (v1 k)) 94) = wS
        intro hbS rS hzS
        replace hbS := hb1.trans hbS
        have HB1w := hb1
        clear hb1
        refine (holdLine_any _ _ _ _ Y _ (k2.blw (G.blw.trans hbS))).mono ?_
        rintro e w2 ⟨hr, hb2⟩
        have HB2 := hbS.trans hb2
        have HB1 := HB1w
        replace rS := rS.blw hb2
        have hz1 : w1.heap.size < w2.heap.size := by have := hb2.size; omega
        rcases hr with ⟨ok2, rfl⟩ | ⟨bad2, rfl⟩
        · have OK1 : Hid (lineOK (l1 k) (v1 k)) := ok1
          have OK2 : Hid (lineOK (l2 k) (v2 k)) := ok2
          clear ok1 ok2 hbS hb2
          have cd : ∀ o, (w2.alloc o).cell? ⟨w.heap.size + 1 + 1, 96 + k, none⟩ = some (.bool (dd k)) := fun o => by
            have := (G.cur.blw (HB2.alloc o)).cell (i := 96 + k) (by omega)
            rw [hcell_d] at this
            exact this
          cases hdk : dd k
          · rw [hdk] at cd
            have HDK : Hid (dd k = false) := hdk
            clear hdk
            obtain ⟨s0, s1, s2, s3⟩ := row4 (rS.blw ((Blw.refl w2).alloc (.cells (four (v2 k)) 94))) (by omega)
            by_cases same : ∀ j, j < 4 → v1 k j = v2 k j
            · have hne := neq75_same _ _ same
              have SAME : Hid (MD.OkAt ⟨12, 12, 12, l1, l2, v1, v2, dd⟩ k) := ⟨OK1.out, OK2.out, fun _ => same⟩
              clear same
              go_wp2
              obtain ⟨hbX, rC, rS', rT⟩ : Blw w (w2.alloc (.cells (four (v2 k)) 94)) ∧ Row (w2.alloc (.cells (four (v2 k)) 94)) (w.heap.size + 1 + 1) 108 _ ∧ Row (w2.alloc (.cells (four (v2 k)) 94)) w1.heap.size 4 (fun i => .int .i64 (v1 k i)) ∧ Row (w2.alloc (.cells (four (v2 k)) 94)) w2.heap.size 4 (fun i => .int .i64 (v2 k i)) := ⟨G.blw.trans (HB2.alloc _), G.cur.blw (HB2.alloc _), rS.blw ((Blw.refl _).alloc _), row_line w2 (v2 k) 94⟩
              have rbx := G.box.blw (HB2.alloc (.cells (four (v2 k)) 94))
              have rrs := G.res.blw (HB2.alloc (.cells (four (v2 k)) 94))
              have nz1 : w.heap.size + 1 + 1 < w1.heap.size := by have := G.cur.lt; have := HB1.size; omega
              have nz2 : w.heap.size + 1 + 1 < w2.heap.size := by omega
              clear cd s0 s1 s2 s3 G HB2 rS
              revert hbX rC rS' rT rbx rrs
              generalize w2.alloc (.cells (four (v2 k)) 94) = wX
              intro hbX rC rS' rT rbx rrs
              have S0 : ∀ w', Mod (fun x => x = w.heap.size + 1 + 1) wX w' → ∀ i, i < 4 → w'.cell? ⟨w1.heap.size, i, none⟩ = some (.int .i64 (v1 k i)) := fun w' hm i hi => hm.cell (rS'.cell hi) (by show ¬ w1.heap.size = _; omega)
              have T0 : ∀ w', Mod (fun x => x = w.heap.size + 1 + 1) wX w' → ∀ i, i < 4 → w'.cell? ⟨w2.heap.size, i, none⟩ = some (.int .i64 (v2 k i)) := fun w' hm i hi => hm.cell (rT.cell hi) (by show ¬ w2.heap.size = _; omega)
              have A0 := fun w' hm => S0 w' hm 0 (by omega)
              have A1 := fun w' hm => S0 w' hm 1 (by omega)
              have A2 := fun w' hm => S0 w' hm 2 (by omega)
              have A3 := fun w' hm => S0 w' hm 3 (by omega)
              have B0 := fun w' hm => T0 w' hm 0 (by omega)
              have B1 := fun w' hm => T0 w' hm 1 (by omega)
              have B2 := fun w' hm => T0 w' hm 2 (by omega)
              have B3 := fun w' hm => T0 w' hm 3 (by omega)
              clear S0 T0 hne
              refine wp_region_noPanic ?_
              refine wp_region_held_drew (S := fun w' => Mod (fun x => x = w.heap.size + 1 + 1) wX w') (by kernel_rfl) ((Blw.refl wX).drew.mod _) (fun hB => ?_)
              have rC0 := rC.blw (Blw.refl wX).drew
              revert hB rC0
              generalize wX.drew = wY
              intro hB rC0
              refine wpAnyH_take (i := 0) (oi := { dst := some 69, op := Op.move (Operand.tmp 5), type := 3, pos := _, after := #[], guard := none }) (v := .int .i64 k) rfl (by kernel_rfl) (by kernel_rfl) (by kernel_rfl) (fun _ _ _ h => h) (Or.inl ⟨by rfl, fun w' hS => by (try dsimp only at hS); go_simp⟩) hB ?_
              simp only [Act.put, List.setIfInBounds_toArray, List.set_cons_zero, List.set_cons_succ]
              refine wpAnyH_take (i := 1) (oi := { dst := some 70, op := Op.move (Operand.tmp 5), type := 3, pos := _, after := #[{ on := 6, ground := Ground.gcOnly Departure.lateStores }], guard := none }) (v := .int .i64 k) rfl (by kernel_rfl) (by kernel_rfl) (by kernel_rfl) (fun _ _ _ h => h) (Or.inl ⟨by rfl, fun w' hS => by (try dsimp only at hS); go_simp⟩) hB ?_
              simp only [Act.put, List.setIfInBounds_toArray, List.set_cons_zero, List.set_cons_succ]
              refine wpAnyH_take (i := 2) (oi := { dst := some 71, op := Op.load 94 (Operand.tmp 6), type := 94, pos := _, after := #[], guard := none }) (v := .agg (four (v1 k))) rfl (by kernel_rfl) (by kernel_rfl) (by kernel_rfl) (fun _ _ _ h => h) (Or.inl ⟨by rfl, fun w' hS => by (try dsimp only at hS); go_simp⟩) hB ?_
              simp only [Act.put, List.setIfInBounds_toArray, List.set_cons_zero, List.set_cons_succ]
              refine wpAnyH_take (i := 3) (oi := { dst := some 72, op := Op.load 94 (Operand.tmp 8), type := 94, pos := _, after := #[{ on := 6, ground := Ground.gcOnly Departure.lateStores }], guard := none }) (v := .agg (four (v2 k))) rfl (by kernel_rfl) (by kernel_rfl) (by kernel_rfl) (fun _ _ _ h => h) (Or.inl ⟨by rfl, fun w' hS => by (try dsimp only at hS); go_simp⟩) hB ?_
              simp only [Act.put, List.setIfInBounds_toArray, List.set_cons_zero, List.set_cons_succ]
              refine wpAnyH_take (i := 4) (oi := { dst := some 73, op := Op.fieldAddr 98 (Operand.tmp 4) 0, type := 0, pos := _, after := #[], guard := none }) (v := .pointer (some ⟨w.heap.size + 1 + 1, 0, none⟩)) rfl (by kernel_rfl) (by kernel_rfl) (by kernel_rfl) (fun _ _ _ h => h) (Or.inl ⟨by rfl, fun w' hS => by (try dsimp only at hS); go_simp⟩) hB ?_
              simp only [Act.put, List.setIfInBounds_toArray, List.set_cons_zero, List.set_cons_succ]
              refine wpAnyH_take (i := 5) (oi := { dst := some 74, op := Op.indexAddr 95 (Operand.tmp 73) (Operand.tmp 69), type := 0, pos := _, after := #[{ on := 4, ground := Ground.data }, { on := 0, ground := Ground.data }, { on := 0, ground := Ground.phase }, { on := 1, ground := Ground.textOnly Departure.lateStores }, { on := 2, ground := Ground.phase }, { on := 3, ground := Ground.textOnly Departure.lateStores }], guard := none }) (v := .pointer (some ⟨w.heap.size + 1 + 1, k * 4, none⟩)) rfl (by kernel_rfl) (by kernel_rfl) (by kernel_rfl) (fun _ _ _ h => h) (Or.inl ⟨by rfl, fun w' hS => by (try dsimp only at hS); go_simp⟩) hB ?_
              simp only [Act.put, List.setIfInBounds_toArray, List.set_cons_zero, List.set_cons_succ]
              refine wpAnyH_take (i := 7) (oi := { dst := some 75, op := Op.fieldAddr 98 (Operand.tmp 4) 1, type := 0, pos := _, after := #[], guard := none }) (v := .pointer (some ⟨w.heap.size + 1 + 1, 48, none⟩)) rfl (by kernel_rfl) (by kernel_rfl) (by kernel_rfl) (fun _ _ _ h => h) (Or.inl ⟨by rfl, fun w' hS => by (try dsimp only at hS); go_simp⟩) hB ?_
              simp only [Act.put, List.setIfInBounds_toArray, List.set_cons_zero, List.set_cons_succ]
              refine wpAnyH_ready (rs := [6]) (by kernel_rfl) (by simp) ?_
              refine AllReadyH.cons (o := { dst := none, op := Op.store 94 (Operand.tmp 74) (Operand.tmp 71), type := 0, pos := _, after := #[{ on := 5, ground := Ground.data }, { on := 2, ground := Ground.data }, { on := 0, ground := Ground.phase }, { on := 1, ground := Ground.textOnly Departure.lateStores }, { on := 2, ground := Ground.phase }, { on := 3, ground := Ground.textOnly Departure.lateStores }], guard := none }) rfl (fun K hK => ?_) AllReadyH.nil
              rw [if_pos (by rfl)]
              refine wp_store_row 94 (.tmp 74) (.tmp 71) rfl (w.heap.size + 1 + 1) (k * 4) (four (v1 k)) rfl rfl 108 _ (fun t => .int .i64 (v1 k t)) rC0 (by show k * 4 + 4 ≤ 108; omega) info75 (one_four (v1 k)) (cell_four (v1 k)) ?_
              intro w6 rC6 hm6 hz6
              refine hK.out _ _ (hB.trans hm6) (fun hB6 => ?_)
              clear hK K
              try simp only [Act.put, List.setIfInBounds_toArray, List.set_cons_zero, List.set_cons_succ]
              refine wpAnyH_take (i := 8) (oi := { dst := some 76, op := Op.indexAddr 95 (Operand.tmp 75) (Operand.tmp 70), type := 0, pos := _, after := #[{ on := 7, ground := Ground.data }, { on := 1, ground := Ground.data }, { on := 0, ground := Ground.phase }, { on := 1, ground := Ground.phase }, { on := 2, ground := Ground.phase }, { on := 3, ground := Ground.phase }, { on := 4, ground := Ground.phase }, { on := 5, ground := Ground.phase }, { on := 6, ground := Ground.phase }], guard := none }) (v := .pointer (some ⟨w.heap.size + 1 + 1, 48 + k * 4, none⟩)) rfl (by kernel_rfl) (by kernel_rfl) (by kernel_rfl) (fun _ _ _ h => h) (Or.inl ⟨by rfl, fun w' hS => by (try dsimp only at hS); go_simp⟩) hB6 ?_
              simp only [Act.put, List.setIfInBounds_toArray, List.set_cons_zero, List.set_cons_succ]
              refine wpAnyH_ready (rs := [9]) (by kernel_rfl) (by simp) ?_
              refine AllReadyH.cons (o := { dst := none, op := Op.store 94 (Operand.tmp 76) (Operand.tmp 72), type := 0, pos := _, after := #[{ on := 8, ground := Ground.data }, { on := 3, ground := Ground.data }, { on := 6, ground := Ground.chain }, { on := 0, ground := Ground.phase }, { on := 1, ground := Ground.phase }, { on := 2, ground := Ground.phase }, { on := 3, ground := Ground.phase }, { on := 4, ground := Ground.phase }, { on := 5, ground := Ground.phase }, { on := 6, ground := Ground.phase }], guard := none }) rfl (fun K hK => ?_) AllReadyH.nil
              rw [if_pos (by rfl)]
              refine wp_store_row 94 (.tmp 76) (.tmp 72) rfl (w.heap.size + 1 + 1) (48 + k * 4) (four (v2 k)) rfl rfl 108 _ (fun t => .int .i64 (v2 k t)) rC6 (by show 48 + k * 4 + 4 ≤ 108; omega) info75 (one_four (v2 k)) (cell_four (v2 k)) ?_
              intro w9 rC9 hm9 hz9
              refine hK.out _ _ (hB6.trans hm9) (fun hB9 => ?_)
              clear hK K
              try simp only [Act.put, List.setIfInBounds_toArray, List.set_cons_zero, List.set_cons_succ]
              refine wpAnyH_done (by kernel_rfl) ?_ _
              refine NoPanic.normal ?_
              clear A0 A1 A2 A3 B0 B1 B2 B3
              have GN := holding_step hbX rbx rrs rC9 hB9 hlt
              clear hbX rbx rrs rC rC0 rC6 rC9 hm6 hm9 hB9 hB6 hB rS' rT
              go_wp2
              go_roundw
              case rel => exact ⟨k + 1, by omega, by go_num, fun j hj => by
                by_cases e : j = k
                · subst e; exact SAME.out
                · exact HOK.out j (by omega), GN⟩
              case measure => simp [intOf]; omega
            · have hne := neq75_other _ _ same
              have NG : Hid (¬ MD.Good ⟨12, 12, 12, l1, l2, v1, v2, dd⟩) := fun g => same ((g.ok k hlt).c HDK.out)
              have rz := G.res.blw (HB2.alloc (.cells (four (v2 k)) 94))
              have hbz := G.blw.trans (HB2.alloc (.cells (four (v2 k)) 94))
              clear same G HB2 rS
              go_wp2_with (first | (refine wpList_build79 rfl rfl ?_) | (refine wpList_store_row rfl 98 (.tmp 2) (.tmp 68) rfl (w.heap.size + 1) 0 Try.zeroCells98 rfl rfl 108 _ (hcell zeros zeros (fun _ => false)) rz (by rw [size79]; omega) (by rw [size79]; exact info79) one79 cell79 ?_; intro wz qz1 qz2 qz3))
              refine bodyPost_ret (v := .tuple #[.agg Try.zeroCells98, .bool false]) (results53 (zero_row (by assumption)) rfl rfl size79 (by rw [← size79]; exact cell79)) rfl ⟨Or.inr ⟨NG.out, rfl⟩, Mod.blw hbz (by assumption) (fun i hi => by omega)⟩
          · rw [hdk] at cd
            have SAME : Hid (MD.OkAt ⟨12, 12, 12, l1, l2, v1, v2, dd⟩ k) := ⟨OK1.out, OK2.out, fun h => absurd (hdk.symm.trans h) (by decide)⟩
            clear hdk
            go_wp2
            obtain ⟨hbX, rC, rS', rT⟩ : Blw w (w2.alloc (.cells (four (v2 k)) 94)) ∧ Row (w2.alloc (.cells (four (v2 k)) 94)) (w.heap.size + 1 + 1) 108 _ ∧ Row (w2.alloc (.cells (four (v2 k)) 94)) w1.heap.size 4 (fun i => .int .i64 (v1 k i)) ∧ Row (w2.alloc (.cells (four (v2 k)) 94)) w2.heap.size 4 (fun i => .int .i64 (v2 k i)) := ⟨G.blw.trans (HB2.alloc _), G.cur.blw (HB2.alloc _), rS.blw ((Blw.refl _).alloc _), row_line w2 (v2 k) 94⟩
            have rbx := G.box.blw (HB2.alloc (.cells (four (v2 k)) 94))
            have rrs := G.res.blw (HB2.alloc (.cells (four (v2 k)) 94))
            have nz1 : w.heap.size + 1 + 1 < w1.heap.size := by have := G.cur.lt; have := HB1.size; omega
            have nz2 : w.heap.size + 1 + 1 < w2.heap.size := by omega
            clear cd G HB2 rS
            revert hbX rC rS' rT rbx rrs
            generalize w2.alloc (.cells (four (v2 k)) 94) = wX
            intro hbX rC rS' rT rbx rrs
            have S0 : ∀ w', Mod (fun x => x = w.heap.size + 1 + 1) wX w' → ∀ i, i < 4 → w'.cell? ⟨w1.heap.size, i, none⟩ = some (.int .i64 (v1 k i)) := fun w' hm i hi => hm.cell (rS'.cell hi) (by show ¬ w1.heap.size = _; omega)
            have T0 : ∀ w', Mod (fun x => x = w.heap.size + 1 + 1) wX w' → ∀ i, i < 4 → w'.cell? ⟨w2.heap.size, i, none⟩ = some (.int .i64 (v2 k i)) := fun w' hm i hi => hm.cell (rT.cell hi) (by show ¬ w2.heap.size = _; omega)
            have A0 := fun w' hm => S0 w' hm 0 (by omega)
            have A1 := fun w' hm => S0 w' hm 1 (by omega)
            have A2 := fun w' hm => S0 w' hm 2 (by omega)
            have A3 := fun w' hm => S0 w' hm 3 (by omega)
            have B0 := fun w' hm => T0 w' hm 0 (by omega)
            have B1 := fun w' hm => T0 w' hm 1 (by omega)
            have B2 := fun w' hm => T0 w' hm 2 (by omega)
            have B3 := fun w' hm => T0 w' hm 3 (by omega)
            clear S0 T0
            refine wp_region_noPanic ?_
            refine wp_region_held_drew (S := fun w' => Mod (fun x => x = w.heap.size + 1 + 1) wX w') (by kernel_rfl) ((Blw.refl wX).drew.mod _) (fun hB => ?_)
            have rC0 := rC.blw (Blw.refl wX).drew
            revert hB rC0
            generalize wX.drew = wY
            intro hB rC0
            refine wpAnyH_take (i := 0) (oi := { dst := some 69, op := Op.move (Operand.tmp 5), type := 3, pos := _, after := #[], guard := none }) (v := .int .i64 k) rfl (by kernel_rfl) (by kernel_rfl) (by kernel_rfl) (fun _ _ _ h => h) (Or.inl ⟨by rfl, fun w' hS => by (try dsimp only at hS); go_simp⟩) hB ?_
            simp only [Act.put, List.setIfInBounds_toArray, List.set_cons_zero, List.set_cons_succ]
            refine wpAnyH_take (i := 1) (oi := { dst := some 70, op := Op.move (Operand.tmp 5), type := 3, pos := _, after := #[{ on := 6, ground := Ground.gcOnly Departure.lateStores }], guard := none }) (v := .int .i64 k) rfl (by kernel_rfl) (by kernel_rfl) (by kernel_rfl) (fun _ _ _ h => h) (Or.inl ⟨by rfl, fun w' hS => by (try dsimp only at hS); go_simp⟩) hB ?_
            simp only [Act.put, List.setIfInBounds_toArray, List.set_cons_zero, List.set_cons_succ]
            refine wpAnyH_take (i := 2) (oi := { dst := some 71, op := Op.load 94 (Operand.tmp 6), type := 94, pos := _, after := #[], guard := none }) (v := .agg (four (v1 k))) rfl (by kernel_rfl) (by kernel_rfl) (by kernel_rfl) (fun _ _ _ h => h) (Or.inl ⟨by rfl, fun w' hS => by (try dsimp only at hS); go_simp⟩) hB ?_
            simp only [Act.put, List.setIfInBounds_toArray, List.set_cons_zero, List.set_cons_succ]
            refine wpAnyH_take (i := 3) (oi := { dst := some 72, op := Op.load 94 (Operand.tmp 8), type := 94, pos := _, after := #[{ on := 6, ground := Ground.gcOnly Departure.lateStores }], guard := none }) (v := .agg (four (v2 k))) rfl (by kernel_rfl) (by kernel_rfl) (by kernel_rfl) (fun _ _ _ h => h) (Or.inl ⟨by rfl, fun w' hS => by (try dsimp only at hS); go_simp⟩) hB ?_
            simp only [Act.put, List.setIfInBounds_toArray, List.set_cons_zero, List.set_cons_succ]
            refine wpAnyH_take (i := 4) (oi := { dst := some 73, op := Op.fieldAddr 98 (Operand.tmp 4) 0, type := 0, pos := _, after := #[], guard := none }) (v := .pointer (some ⟨w.heap.size + 1 + 1, 0, none⟩)) rfl (by kernel_rfl) (by kernel_rfl) (by kernel_rfl) (fun _ _ _ h => h) (Or.inl ⟨by rfl, fun w' hS => by (try dsimp only at hS); go_simp⟩) hB ?_
            simp only [Act.put, List.setIfInBounds_toArray, List.set_cons_zero, List.set_cons_succ]
            refine wpAnyH_take (i := 5) (oi := { dst := some 74, op := Op.indexAddr 95 (Operand.tmp 73) (Operand.tmp 69), type := 0, pos := _, after := #[{ on := 4, ground := Ground.data }, { on := 0, ground := Ground.data }, { on := 0, ground := Ground.phase }, { on := 1, ground := Ground.textOnly Departure.lateStores }, { on := 2, ground := Ground.phase }, { on := 3, ground := Ground.textOnly Departure.lateStores }], guard := none }) (v := .pointer (some ⟨w.heap.size + 1 + 1, k * 4, none⟩)) rfl (by kernel_rfl) (by kernel_rfl) (by kernel_rfl) (fun _ _ _ h => h) (Or.inl ⟨by rfl, fun w' hS => by (try dsimp only at hS); go_simp⟩) hB ?_
            simp only [Act.put, List.setIfInBounds_toArray, List.set_cons_zero, List.set_cons_succ]
            refine wpAnyH_take (i := 7) (oi := { dst := some 75, op := Op.fieldAddr 98 (Operand.tmp 4) 1, type := 0, pos := _, after := #[], guard := none }) (v := .pointer (some ⟨w.heap.size + 1 + 1, 48, none⟩)) rfl (by kernel_rfl) (by kernel_rfl) (by kernel_rfl) (fun _ _ _ h => h) (Or.inl ⟨by rfl, fun w' hS => by (try dsimp only at hS); go_simp⟩) hB ?_
            simp only [Act.put, List.setIfInBounds_toArray, List.set_cons_zero, List.set_cons_succ]
            refine wpAnyH_ready (rs := [6]) (by kernel_rfl) (by simp) ?_
            refine AllReadyH.cons (o := { dst := none, op := Op.store 94 (Operand.tmp 74) (Operand.tmp 71), type := 0, pos := _, after := #[{ on := 5, ground := Ground.data }, { on := 2, ground := Ground.data }, { on := 0, ground := Ground.phase }, { on := 1, ground := Ground.textOnly Departure.lateStores }, { on := 2, ground := Ground.phase }, { on := 3, ground := Ground.textOnly Departure.lateStores }], guard := none }) rfl (fun K hK => ?_) AllReadyH.nil
            rw [if_pos (by rfl)]
            refine wp_store_row 94 (.tmp 74) (.tmp 71) rfl (w.heap.size + 1 + 1) (k * 4) (four (v1 k)) rfl rfl 108 _ (fun t => .int .i64 (v1 k t)) rC0 (by show k * 4 + 4 ≤ 108; omega) info75 (one_four (v1 k)) (cell_four (v1 k)) ?_
            intro w6 rC6 hm6 hz6
            refine hK.out _ _ (hB.trans hm6) (fun hB6 => ?_)
            clear hK K
            try simp only [Act.put, List.setIfInBounds_toArray, List.set_cons_zero, List.set_cons_succ]
            refine wpAnyH_take (i := 8) (oi := { dst := some 76, op := Op.indexAddr 95 (Operand.tmp 75) (Operand.tmp 70), type := 0, pos := _, after := #[{ on := 7, ground := Ground.data }, { on := 1, ground := Ground.data }, { on := 0, ground := Ground.phase }, { on := 1, ground := Ground.phase }, { on := 2, ground := Ground.phase }, { on := 3, ground := Ground.phase }, { on := 4, ground := Ground.phase }, { on := 5, ground := Ground.phase }, { on := 6, ground := Ground.phase }], guard := none }) (v := .pointer (some ⟨w.heap.size + 1 + 1, 48 + k * 4, none⟩)) rfl (by kernel_rfl) (by kernel_rfl) (by kernel_rfl) (fun _ _ _ h => h) (Or.inl ⟨by rfl, fun w' hS => by (try dsimp only at hS); go_simp⟩) hB6 ?_
            simp only [Act.put, List.setIfInBounds_toArray, List.set_cons_zero, List.set_cons_succ]
            refine wpAnyH_ready (rs := [9]) (by kernel_rfl) (by simp) ?_
            refine AllReadyH.cons (o := { dst := none, op := Op.store 94 (Operand.tmp 76) (Operand.tmp 72), type := 0, pos := _, after := #[{ on := 8, ground := Ground.data }, { on := 3, ground := Ground.data }, { on := 6, ground := Ground.chain }, { on := 0, ground := Ground.phase }, { on := 1, ground := Ground.phase }, { on := 2, ground := Ground.phase }, { on := 3, ground := Ground.phase }, { on := 4, ground := Ground.phase }, { on := 5, ground := Ground.phase }, { on := 6, ground := Ground.phase }], guard := none }) rfl (fun K hK => ?_) AllReadyH.nil
            rw [if_pos (by rfl)]
            refine wp_store_row 94 (.tmp 76) (.tmp 72) rfl (w.heap.size + 1 + 1) (48 + k * 4) (four (v2 k)) rfl rfl 108 _ (fun t => .int .i64 (v2 k t)) rC6 (by show 48 + k * 4 + 4 ≤ 108; omega) info75 (one_four (v2 k)) (cell_four (v2 k)) ?_
            intro w9 rC9 hm9 hz9
            refine hK.out _ _ (hB6.trans hm9) (fun hB9 => ?_)
            clear hK K
            try simp only [Act.put, List.setIfInBounds_toArray, List.set_cons_zero, List.set_cons_succ]
            refine wpAnyH_done (by kernel_rfl) ?_ _
            refine NoPanic.normal ?_
            clear A0 A1 A2 A3 B0 B1 B2 B3
            have GN := holding_step hbX rbx rrs rC9 hB9 hlt
            clear hbX rbx rrs rC rC0 rC6 rC9 hm6 hm9 hB9 hB6 hB rS' rT
            go_wp2
            go_roundw
            case rel => exact ⟨k + 1, by omega, by go_num, fun j hj => by
              by_cases e : j = k
              · subst e; exact SAME.out
              · exact HOK.out j (by omega), GN⟩
            case measure => simp [intOf]; omega
        · have NG : Hid (¬ MD.Good ⟨12, 12, 12, l1, l2, v1, v2, dd⟩) := fun g => bad2 (g.ok k hlt).b
          have rz := G.res.blw (HB2.alloc (.cells z4 94))
          have hbz := G.blw.trans (HB2.alloc (.cells z4 94))
          clear bad2 ok1 G hbS hb2 HB2 rS
          go_wp2_with (first | (refine wpList_build79 rfl rfl ?_) | (refine wpList_store_row rfl 98 (.tmp 2) (.tmp 57) rfl (w.heap.size + 1) 0 Try.zeroCells98 rfl rfl 108 _ (hcell zeros zeros (fun _ => false)) rz (by rw [size79]; omega) (by rw [size79]; exact info79) one79 cell79 ?_; intro wz qz1 qz2 qz3))
          refine bodyPost_ret (v := .tuple #[.agg Try.zeroCells98, .bool false]) (results53 (zero_row (by assumption)) rfl rfl size79 (by rw [← size79]; exact cell79)) rfl ⟨Or.inr ⟨NG.out, rfl⟩, Mod.blw hbz (by assumption) (fun i hi => by omega)⟩
      · have NG : Hid (¬ MD.Good ⟨12, 12, 12, l1, l2, v1, v2, dd⟩) := fun g => bad1 (g.ok k hlt).a
        have rz := G.res.blw (hb1.alloc (.cells z4 94))
        have hbz := G.blw.trans (hb1.alloc (.cells z4 94))
        clear bad1 G hb1 q0 g1
        go_wp2_with (first | (refine wpList_build79 rfl rfl ?_) | (refine wpList_store_row rfl 98 (.tmp 2) (.tmp 45) rfl (w.heap.size + 1) 0 Try.zeroCells98 rfl rfl 108 _ (hcell zeros zeros (fun _ => false)) rz (by rw [size79]; omega) (by rw [size79]; exact info79) one79 cell79 ?_; intro wz qz1 qz2 qz3))
        refine bodyPost_ret (v := .tuple #[.agg Try.zeroCells98, .bool false]) (results53 (zero_row (by assumption)) rfl rfl size79 (by rw [← size79]; exact cell79)) rfl ⟨Or.inr ⟨NG.out, rfl⟩, Mod.blw hbz (by assumption) (fun i hi => by omega)⟩
    · obtain rfl : k = 12 := by omega
      obtain ⟨cs, z1, z2, z3⟩ := part_of (o := 0) (m := 108) 98 (full_row G.cur) (by omega) info79
      have rng := z3 wr (Blw.refl _)
      have hlen : cs.length = 108 := by rw [info79] at z1; simpa using z1.symm
      have one : cs.toArray.all (·.oneCell') = true := one_cells hlen z2
      have hbz := G.blw
      have rz := G.res
      have HGD : Hid (MD.Good ⟨12, 12, 12, l1, l2, v1, v2, dd⟩) := ⟨rfl, rfl, rfl, hok⟩
      clear hok G z3
      go_wp2_with (first | (refine wpList_load_mid rfl 98 (.tmp 4) rfl (w.heap.size + 1 + 1) 0 rfl cs _ rng Try.underlying98 rfl z1 ?_) | (refine wpList_store_row rfl 98 (.tmp 2) (.tmp 78) rfl (w.heap.size + 1) 0 cs.toArray rfl rfl 108 _ (hcell v1 v2 dd) rz (by simp [hlen]) (by simpa using z1) one (fun j hj => by rw [z2 j (by simpa [hlen] using hj), Nat.zero_add]) ?_; intro wz qz1 qz2 qz3))
      refine bodyPost_ret (v := .tuple #[.agg cs.toArray, .bool true]) (results53 (whole_row hlen (by assumption)) rfl rfl (by simpa using hlen) (fun j hj => by rw [z2 j hj, Nat.zero_add])) rfl ⟨Or.inl ⟨HGD.out, cs.toArray, by simpa using hlen, fun j hj => by rw [z2 j hj, Nat.zero_add], rfl⟩, Mod.blw hbz (by assumption) (fun i hi => by omega)⟩
/-- What holdMemory answers, whatever the memory. -/
theorem holdMemory_any (m : MV) (M : MD) (Y : Nat → Prop) (w : World) (h : MemAt Y w m M) :
    Calls Try.prog 76 #[m.val M] w fun e w' => ((M.Good ∧ ∃ cs : Array Value, cs.size = 108 ∧ (∀ i, i < 108 → cs[i]? = some (hcell M.v1 M.v2 M.d i)) ∧ e = .returned (.tuple #[.agg cs, .bool true])) ∨ (¬ M.Good ∧ e = .returned (.tuple #[.agg Try.zeroCells98, .bool false]))) ∧ Blw w w' := by
  by_cases hn : M.n1 = 12 ∧ M.n2 = 12 ∧ M.n3 = 12
  · exact holdMemory_full m M Y w h hn.1 hn.2.1 hn.2.2
  · exact (holdMemory_short m M Y w h hn).mono fun e w' ⟨he, hb⟩ => ⟨Or.inr ⟨fun g => hn ⟨g.n1, g.n2, g.n3⟩, he⟩, hb⟩
end Go.Proofs.Ytnbcjdoohmjghaa
/- 'spec.GoodMemory': what it answers. -/
namespace Go.Proofs.Ytnbcjdoohmjghaa
open Go.RowKit
set_option linter.unusedSimpArgs false
set_option maxHeartbeats 4000000 in
theorem goodS_any (m : MV) (M : MD) (Y : Nat → Prop) (w : World) (h : MemAt Y w m M) :
    Calls Try.prog 19 #[m.val M] w fun e w' => ∃ b, e = .returned (.bool b) ∧ (b = true ↔ M.Good) ∧ Blw w w' := by
  obtain ⟨s, c, d⟩ := h
  obtain ⟨a1, a2, a3, c1, c2, c3⟩ := m
  obtain ⟨n1, n2, n3, l1, l2, v1, v2, dd⟩ := M
  have z1 := s.1
  have z2 := c.1
  have z3 := d.1
  simp only [MV.val] at *
  by_cases h1 : n1 = 12
  · by_cases h2 : n2 = 12
    · by_cases h3 : n3 = 12
      · subst h1 h2 h3
        clear z1 z2 z3
        go_enter Try.func19, Try.ntmps19
        go_wp2
        have hb0 : Blw w (w.alloc (.cells #[.slice a1 12 c1, .slice a2 12 c2, .slice a3 12 c3] 26)) := (Blw.refl _).alloc _
        have q0 : (w.alloc (.cells #[.slice a1 12 c1, .slice a2 12 c2, .slice a3 12 c3] 26)).cell? ⟨w.heap.size, 0, none⟩ = some (.slice a1 12 c1) := by go_cell
        have q1 : (w.alloc (.cells #[.slice a1 12 c1, .slice a2 12 c2, .slice a3 12 c3] 26)).cell? ⟨w.heap.size, 1, none⟩ = some (.slice a2 12 c2) := by go_cell
        have q2 : (w.alloc (.cells #[.slice a1 12 c1, .slice a2 12 c2, .slice a3 12 c3] 26)).cell? ⟨w.heap.size, 2, none⟩ = some (.slice a3 12 c3) := by go_cell
        revert hb0 q0 q1 q2
        generalize w.alloc (.cells #[.slice a1 12 c1, .slice a2 12 c2, .slice a3 12 c3] 26) = w0
        intro hb0 q0 q1 q2
        go_loopw [23] (fun i wr => ∃ k : Nat, k ≤ 12 ∧ i = .int .i64 k ∧ (∀ j, j < k → MD.OkAt ⟨12, 12, 12, l1, l2, v1, v2, dd⟩ j) ∧ Blw w0 wr) (fun i _ => 12 - (intOf i).toNat)
        case atStart => exact ⟨0, Nat.zero_le _, rfl, fun j hj => absurd hj (Nat.not_lt_zero _), Blw.refl _⟩
        case round =>
          obtain ⟨k, hk, rfl, hok, hb⟩ := hrel
          by_cases hlt : k < 12
          · obtain ⟨b1, o1, e1, ce1, rfl, -, g1, k1⟩ := s.2 k hlt
            obtain ⟨b2, o2, e2, ce2, rfl, -, g2, k2⟩ := c.2 k hlt
            obtain ⟨b3, o3, rfl, -, g3⟩ := d.2 k hlt
            have hB := hb0.trans hb
            have hBw : ∀ w', Blw wr w' → Blw w w' := fun w' h => hB.trans h
            have R0 : ∀ w', Blw wr w' → w'.cell? ⟨w.heap.size, 0, none⟩ = some (.slice (some ⟨b1, o1, none⟩) 12 c1) := fun w' h => (hb.trans h).cell q0
            have R1 : ∀ w', Blw wr w' → w'.cell? ⟨w.heap.size, 1, none⟩ = some (.slice (some ⟨b2, o2, none⟩) 12 c2) := fun w' h => (hb.trans h).cell q1
            have R2 : ∀ w', Blw wr w' → w'.cell? ⟨w.heap.size, 2, none⟩ = some (.slice (some ⟨b3, o3, none⟩) 12 c3) := fun w' h => (hb.trans h).cell q2
            have R3 : ∀ w', Blw wr w' → w'.cell? ⟨b1, o1 + k, none⟩ = some (.slice e1 (l1 k) ce1) := fun w' h => (hBw w' h).cell g1
            have R4 : ∀ w', Blw wr w' → w'.cell? ⟨b2, o2 + k, none⟩ = some (.slice e2 (l2 k) ce2) := fun w' h => (hBw w' h).cell g2
            have R5 : ∀ w', Blw wr w' → w'.cell? ⟨b3, o3 + k, none⟩ = some (.bool (dd k)) := fun w' h => (hBw w' h).cell g3
            have K1 : Hid (∀ w', Blw wr w' → IntsAt Y w' e1 (l1 k) (v1 k)) := fun w' h => k1.blw (hBw w' h)
            have K2 : Hid (∀ w', Blw wr w' → IntsAt Y w' e2 (l2 k) (v2 k)) := fun w' h => k2.blw (hBw w' h)
            have HB : Hid (∀ w', Blw wr w' → Blw w w') := hBw
            have HOK : Hid (∀ j, j < k → MD.OkAt ⟨12, 12, 12, l1, l2, v1, v2, dd⟩ j) := hok
            have HBB : Hid (Blw w0 wr) := hb
            have rr := Blw.refl wr
            clear s c d q0 q1 q2 hB hBw g1 g2 g3 k1 k2 hok hb hb0
            by_cases ok : MD.OkAt ⟨12, 12, 12, l1, l2, v1, v2, dd⟩ k
            · have NX : Hid (∀ j, j < k + 1 → MD.OkAt ⟨12, 12, 12, l1, l2, v1, v2, dd⟩ j) := fun j hj => by
                by_cases e : j = k
                · subst e; exact ok
                · exact HOK.out j (by omega)
              have OA : Hid (lineOK (l1 k) (v1 k)) := ok.a
              have OB : Hid (lineOK (l2 k) (v2 k)) := ok.b
              have OC : Hid (dd k = false → ∀ j, j < 4 → v1 k j = v2 k j) := ok.c
              clear ok
              cases hdk : dd k
              · rw [hdk] at R5
                have HS : Hid (∀ j, j < 4 → v1 k j = v2 k j) := OC.out hdk
                clear hdk OC
                revert R3 R4 K1 K2 OA OB
                generalize l1 k = m1
                generalize l2 k = m2
                intro R3 R4 K1 K2 OA OB
                obtain rfl : m1 = 4 := OA.out.1
                obtain rfl : m2 = 4 := OB.out.1
                go_wp2
                go_region_held3 (fun w' => Blw wr w') (((repeat (first | assumption | apply Blw.drewN | apply Blw.drew | apply Blw.alloc | (refine Blw.trans ?_ (by assumption)) | exact Blw.refl _)))) (first
                  | (go_at_call_of 84 e1; refine (l1Line_yes _ _ _ (v1 k) Y _ (K1.out _ (by assumption)) OA.out).mono ?_; rintro e w' ⟨rfl, hbA⟩)
                  | (go_at_call_of 84 e2; refine (l1Line_yes _ _ _ (v2 k) Y _ (K2.out _ (by assumption)) OB.out).mono ?_; rintro e w' ⟨rfl, hbA⟩)
                  | (go_at_call 85; refine (l1Same_yes _ _ _ _ 4 (v1 k) (v2 k) _ (K1.out _ (by assumption)) (K2.out _ (by assumption)) HS.out).mono ?_; rintro e w' ⟨rfl, nn, rfl⟩))
                all_goals go_wp2
                all_goals go_roundw
                all_goals first | exact ⟨k + 1, by omega, by go_num, NX.out, HBB.out.trans (by assumption)⟩ | exact ⟨k + 1, by omega, by go_num, NX.out, HBB.out.trans (Blw.drewN (by assumption) _)⟩ | (simp [intOf]; omega)
              · rw [hdk] at R5
                clear hdk OC
                revert R3 R4 K1 K2 OA OB
                generalize l1 k = m1
                generalize l2 k = m2
                intro R3 R4 K1 K2 OA OB
                have rd : Blw wr wr.drew := rr.drew
                go_wp2
                refine wp_region_noPanic ?_
                refine wp_region_held_drew (S := fun w' => Blw wr w') (by kernel_rfl) rd (fun hB1 => ?_)
                clear rd
                revert hB1
                generalize wr.drew = w1
                intro hB1
                refine wpAnyH_take (i := 0) (oi := { dst := some 26, op := Op.fieldAddr 26 (Operand.tmp 1) 0, type := 0, pos := _, after := #[], guard := none }) (v := .pointer (some ⟨w.heap.size, 0, none⟩)) rfl (by kernel_rfl) (by kernel_rfl) (by kernel_rfl) (fun _ _ _ h => h) (Or.inl ⟨by rfl, fun w' hS => by (try dsimp only at hS); go_simp⟩) hB1 ?_
                simp only [Act.put, List.setIfInBounds_toArray, List.set_cons_zero, List.set_cons_succ]
                refine wpAnyH_take (i := 1) (oi := { dst := some 27, op := Op.load 23 (Operand.tmp 26), type := 23, pos := _, after := #[{ on := 0, ground := Ground.data }], guard := none }) (v := .slice (some ⟨b1, o1, none⟩) 12 c1) rfl (by kernel_rfl) (by kernel_rfl) (by kernel_rfl) (fun _ _ _ h => h) (Or.inl ⟨by rfl, fun w' hS => by (try dsimp only at hS); go_simp⟩) hB1 ?_
                simp only [Act.put, List.setIfInBounds_toArray, List.set_cons_zero, List.set_cons_succ]
                refine wpAnyH_take (i := 2) (oi := { dst := some 28, op := Op.move (Operand.tmp 3), type := 3, pos := _, after := #[], guard := none }) (v := .int .i64 k) rfl (by kernel_rfl) (by kernel_rfl) (by kernel_rfl) (fun _ _ _ h => h) (Or.inl ⟨by rfl, fun w' hS => by (try dsimp only at hS); go_simp⟩) hB1 ?_
                simp only [Act.put, List.setIfInBounds_toArray, List.set_cons_zero, List.set_cons_succ]
                refine wpAnyH_take (i := 3) (oi := { dst := some 29, op := Op.indexAddr 23 (Operand.tmp 27) (Operand.tmp 28), type := 0, pos := _, after := #[{ on := 1, ground := Ground.data }, { on := 2, ground := Ground.data }], guard := none }) (v := .pointer (some ⟨b1, o1 + k, none⟩)) rfl (by kernel_rfl) (by kernel_rfl) (by kernel_rfl) (fun _ _ _ h => h) (Or.inl ⟨by rfl, fun w' hS => by (try dsimp only at hS); go_simp⟩) hB1 ?_
                simp only [Act.put, List.setIfInBounds_toArray, List.set_cons_zero, List.set_cons_succ]
                refine wpAnyH_take (i := 4) (oi := { dst := some 30, op := Op.load 37 (Operand.tmp 29), type := 37, pos := _, after := #[{ on := 3, ground := Ground.data }], guard := none }) (v := .agg #[.slice e1 m1 ce1]) rfl (by kernel_rfl) (by kernel_rfl) (by kernel_rfl) (fun _ _ _ h => h) (Or.inl ⟨by rfl, fun w' hS => by (try dsimp only at hS); go_simp⟩) hB1 ?_
                simp only [Act.put, List.setIfInBounds_toArray, List.set_cons_zero, List.set_cons_succ]
                refine wpAnyH_ready (rs := [5]) (by kernel_rfl) (by simp) ?_
                refine AllReadyH.cons (o := { dst := some 31, op := Op.call { callee := Callee.value (Operand.func 84), args := #[Operand.tmp 30], argTypes := #[37] }, type := 4, pos := _, after := #[{ on := 4, ground := Ground.data }], guard := none }) rfl (fun K hK => ?_) AllReadyH.nil
                go_simp
                refine (l1Line_yes _ _ _ (v1 k) Y _ (K1.out _ hB1) OA.out).mono ?_
                rintro e w2 ⟨rfl, hb2⟩
                refine hK.out _ _ (hB1.trans hb2) (fun hB2 => ?_)
                clear hK K hb2
                try simp only [Act.put, List.setIfInBounds_toArray, List.set_cons_zero, List.set_cons_succ]
                refine wpAnyH_take (i := 6) (oi := { dst := some 32, op := Op.unOp UnOp.not 4 (Operand.tmp 31), type := 4, pos := _, after := #[{ on := 5, ground := Ground.data }], guard := none }) (v := .bool false) rfl (by kernel_rfl) (by kernel_rfl) (by kernel_rfl) (fun _ _ _ h => h) (Or.inl ⟨by rfl, fun w' hS => by (try dsimp only at hS); go_simp⟩) hB2 ?_
                simp only [Act.put, List.setIfInBounds_toArray, List.set_cons_zero, List.set_cons_succ]
                refine wpAnyH_take (i := 7) (oi := { dst := some 33, op := Op.move (Operand.tmp 32), type := 4, pos := _, after := #[{ on := 6, ground := Ground.data }, { on := 5, ground := Ground.chain }], guard := none }) (v := .bool false) rfl (by kernel_rfl) (by kernel_rfl) (by kernel_rfl) (fun _ _ _ h => h) (Or.inl ⟨by rfl, fun w' hS => by (try dsimp only at hS); go_simp⟩) hB2 ?_
                simp only [Act.put, List.setIfInBounds_toArray, List.set_cons_zero, List.set_cons_succ]
                refine wpAnyH_take (i := 8) (oi := { dst := some 34, op := Op.fieldAddr 26 (Operand.tmp 1) 1, type := 0, pos := _, after := #[{ on := 7, ground := Ground.guard }], guard := some (7, false) }) (v := .pointer (some ⟨w.heap.size, 1, none⟩)) rfl (by kernel_rfl) (by kernel_rfl) (by kernel_rfl) (fun _ _ _ h => h) (Or.inl ⟨by rfl, fun w' hS => by (try dsimp only at hS); go_simp⟩) hB2 ?_
                simp only [Act.put, List.setIfInBounds_toArray, List.set_cons_zero, List.set_cons_succ]
                refine wpAnyH_take (i := 9) (oi := { dst := some 35, op := Op.load 23 (Operand.tmp 34), type := 23, pos := _, after := #[{ on := 8, ground := Ground.data }, { on := 7, ground := Ground.guard }], guard := some (7, false) }) (v := .slice (some ⟨b2, o2, none⟩) 12 c2) rfl (by kernel_rfl) (by kernel_rfl) (by kernel_rfl) (fun _ _ _ h => h) (Or.inl ⟨by rfl, fun w' hS => by (try dsimp only at hS); go_simp⟩) hB2 ?_
                simp only [Act.put, List.setIfInBounds_toArray, List.set_cons_zero, List.set_cons_succ]
                refine wpAnyH_take (i := 10) (oi := { dst := some 36, op := Op.move (Operand.tmp 3), type := 3, pos := _, after := #[{ on := 7, ground := Ground.guard }], guard := some (7, false) }) (v := .int .i64 k) rfl (by kernel_rfl) (by kernel_rfl) (by kernel_rfl) (fun _ _ _ h => h) (Or.inl ⟨by rfl, fun w' hS => by (try dsimp only at hS); go_simp⟩) hB2 ?_
                simp only [Act.put, List.setIfInBounds_toArray, List.set_cons_zero, List.set_cons_succ]
                refine wpAnyH_take (i := 11) (oi := { dst := some 37, op := Op.indexAddr 23 (Operand.tmp 35) (Operand.tmp 36), type := 0, pos := _, after := #[{ on := 9, ground := Ground.data }, { on := 10, ground := Ground.data }, { on := 7, ground := Ground.guard }], guard := some (7, false) }) (v := .pointer (some ⟨b2, o2 + k, none⟩)) rfl (by kernel_rfl) (by kernel_rfl) (by kernel_rfl) (fun _ _ _ h => h) (Or.inl ⟨by rfl, fun w' hS => by (try dsimp only at hS); go_simp⟩) hB2 ?_
                simp only [Act.put, List.setIfInBounds_toArray, List.set_cons_zero, List.set_cons_succ]
                refine wpAnyH_take (i := 12) (oi := { dst := some 38, op := Op.load 37 (Operand.tmp 37), type := 37, pos := _, after := #[{ on := 11, ground := Ground.data }, { on := 7, ground := Ground.guard }], guard := some (7, false) }) (v := .agg #[.slice e2 m2 ce2]) rfl (by kernel_rfl) (by kernel_rfl) (by kernel_rfl) (fun _ _ _ h => h) (Or.inl ⟨by rfl, fun w' hS => by (try dsimp only at hS); go_simp⟩) hB2 ?_
                simp only [Act.put, List.setIfInBounds_toArray, List.set_cons_zero, List.set_cons_succ]
                refine wpAnyH_ready (rs := [13]) (by kernel_rfl) (by simp) ?_
                refine AllReadyH.cons (o := { dst := some 39, op := Op.call { callee := Callee.value (Operand.func 84), args := #[Operand.tmp 38], argTypes := #[37] }, type := 4, pos := _, after := #[{ on := 12, ground := Ground.data }, { on := 7, ground := Ground.chain }, { on := 7, ground := Ground.guard }], guard := some (7, false) }) rfl (fun K hK => ?_) AllReadyH.nil
                go_simp
                refine (l1Line_yes _ _ _ (v2 k) Y _ (K2.out _ hB2) OB.out).mono ?_
                rintro e w3 ⟨rfl, hb3⟩
                refine hK.out _ _ (hB2.trans hb3) (fun hB3 => ?_)
                clear hK K hb3
                try simp only [Act.put, List.setIfInBounds_toArray, List.set_cons_zero, List.set_cons_succ]
                refine wpAnyH_take (i := 14) (oi := { dst := some 40, op := Op.unOp UnOp.not 4 (Operand.tmp 39), type := 4, pos := _, after := #[{ on := 13, ground := Ground.data }, { on := 7, ground := Ground.guard }], guard := some (7, false) }) (v := .bool false) rfl (by kernel_rfl) (by kernel_rfl) (by kernel_rfl) (fun _ _ _ h => h) (Or.inl ⟨by rfl, fun w' hS => by (try dsimp only at hS); go_simp⟩) hB3 ?_
                simp only [Act.put, List.setIfInBounds_toArray, List.set_cons_zero, List.set_cons_succ]
                refine wpAnyH_take (i := 15) (oi := { dst := some 41, op := Op.pick (Operand.tmp 33) (Operand.const (Value.bool true)) (Operand.tmp 40), type := 4, pos := _, after := #[{ on := 7, ground := Ground.data }, { on := 14, ground := Ground.data }], guard := none }) (v := .bool false) rfl (by kernel_rfl) (by kernel_rfl) (by kernel_rfl) (fun _ _ _ h => h) (Or.inl ⟨by rfl, fun w' hS => by (try dsimp only at hS); go_simp⟩) hB3 ?_
                simp only [Act.put, List.setIfInBounds_toArray, List.set_cons_zero, List.set_cons_succ]
                refine wpAnyH_take (i := 16) (oi := { dst := some 42, op := Op.move (Operand.tmp 41), type := 4, pos := _, after := #[{ on := 15, ground := Ground.data }, { on := 13, ground := Ground.chain }], guard := none }) (v := .bool false) rfl (by kernel_rfl) (by kernel_rfl) (by kernel_rfl) (fun _ _ _ h => h) (Or.inl ⟨by rfl, fun w' hS => by (try dsimp only at hS); go_simp⟩) hB3 ?_
                simp only [Act.put, List.setIfInBounds_toArray, List.set_cons_zero, List.set_cons_succ]
                refine wpAnyH_take (i := 17) (oi := { dst := some 43, op := Op.fieldAddr 26 (Operand.tmp 1) 2, type := 0, pos := _, after := #[{ on := 16, ground := Ground.guard }], guard := some (16, false) }) (v := .pointer (some ⟨w.heap.size, 2, none⟩)) rfl (by kernel_rfl) (by kernel_rfl) (by kernel_rfl) (fun _ _ _ h => h) (Or.inl ⟨by rfl, fun w' hS => by (try dsimp only at hS); go_simp⟩) hB3 ?_
                simp only [Act.put, List.setIfInBounds_toArray, List.set_cons_zero, List.set_cons_succ]
                refine wpAnyH_take (i := 18) (oi := { dst := some 44, op := Op.load 24 (Operand.tmp 43), type := 24, pos := _, after := #[{ on := 17, ground := Ground.data }, { on := 16, ground := Ground.guard }], guard := some (16, false) }) (v := .slice (some ⟨b3, o3, none⟩) 12 c3) rfl (by kernel_rfl) (by kernel_rfl) (by kernel_rfl) (fun _ _ _ h => h) (Or.inl ⟨by rfl, fun w' hS => by (try dsimp only at hS); go_simp⟩) hB3 ?_
                simp only [Act.put, List.setIfInBounds_toArray, List.set_cons_zero, List.set_cons_succ]
                refine wpAnyH_take (i := 19) (oi := { dst := some 45, op := Op.move (Operand.tmp 3), type := 3, pos := _, after := #[{ on := 16, ground := Ground.guard }], guard := some (16, false) }) (v := .int .i64 k) rfl (by kernel_rfl) (by kernel_rfl) (by kernel_rfl) (fun _ _ _ h => h) (Or.inl ⟨by rfl, fun w' hS => by (try dsimp only at hS); go_simp⟩) hB3 ?_
                simp only [Act.put, List.setIfInBounds_toArray, List.set_cons_zero, List.set_cons_succ]
                refine wpAnyH_take (i := 20) (oi := { dst := some 46, op := Op.indexAddr 24 (Operand.tmp 44) (Operand.tmp 45), type := 0, pos := _, after := #[{ on := 18, ground := Ground.data }, { on := 19, ground := Ground.data }, { on := 16, ground := Ground.guard }], guard := some (16, false) }) (v := .pointer (some ⟨b3, o3 + k, none⟩)) rfl (by kernel_rfl) (by kernel_rfl) (by kernel_rfl) (fun _ _ _ h => h) (Or.inl ⟨by rfl, fun w' hS => by (try dsimp only at hS); go_simp⟩) hB3 ?_
                simp only [Act.put, List.setIfInBounds_toArray, List.set_cons_zero, List.set_cons_succ]
                refine wpAnyH_take (i := 21) (oi := { dst := some 47, op := Op.load 4 (Operand.tmp 46), type := 4, pos := _, after := #[{ on := 20, ground := Ground.data }, { on := 16, ground := Ground.guard }], guard := some (16, false) }) (v := .bool true) rfl (by kernel_rfl) (by kernel_rfl) (by kernel_rfl) (fun _ _ _ h => h) (Or.inl ⟨by rfl, fun w' hS => by (try dsimp only at hS); go_simp⟩) hB3 ?_
                simp only [Act.put, List.setIfInBounds_toArray, List.set_cons_zero, List.set_cons_succ]
                refine wpAnyH_take (i := 22) (oi := { dst := some 48, op := Op.unOp UnOp.not 4 (Operand.tmp 47), type := 4, pos := _, after := #[{ on := 21, ground := Ground.data }, { on := 16, ground := Ground.guard }], guard := some (16, false) }) (v := .bool false) rfl (by kernel_rfl) (by kernel_rfl) (by kernel_rfl) (fun _ _ _ h => h) (Or.inl ⟨by rfl, fun w' hS => by (try dsimp only at hS); go_simp⟩) hB3 ?_
                simp only [Act.put, List.setIfInBounds_toArray, List.set_cons_zero, List.set_cons_succ]
                refine wpAnyH_take (i := 23) (oi := { dst := some 49, op := Op.move (Operand.tmp 48), type := 4, pos := _, after := #[{ on := 22, ground := Ground.data }, { on := 16, ground := Ground.chain }, { on := 16, ground := Ground.guard }], guard := some (16, false) }) (v := .bool false) rfl (by kernel_rfl) (by kernel_rfl) (by kernel_rfl) (fun _ _ _ h => h) (Or.inl ⟨by rfl, fun w' hS => by (try dsimp only at hS); go_simp⟩) hB3 ?_
                simp only [Act.put, List.setIfInBounds_toArray, List.set_cons_zero, List.set_cons_succ]
                refine wpAnyH_take (i := 24) (oi := { dst := some 50, op := Op.fieldAddr 26 (Operand.tmp 1) 0, type := 0, pos := _, after := #[{ on := 23, ground := Ground.guard }], guard := some (23, true) }) (v := undef) rfl (by kernel_rfl) (by kernel_rfl) (by kernel_rfl) (fun _ _ _ h => h) (Or.inr ⟨by rfl, rfl⟩) hB3 ?_
                simp only [Act.put, List.setIfInBounds_toArray, List.set_cons_zero, List.set_cons_succ]
                refine wpAnyH_take (i := 25) (oi := { dst := some 51, op := Op.load 23 (Operand.tmp 50), type := 23, pos := _, after := #[{ on := 24, ground := Ground.data }, { on := 23, ground := Ground.guard }], guard := some (23, true) }) (v := undef) rfl (by kernel_rfl) (by kernel_rfl) (by kernel_rfl) (fun _ _ _ h => h) (Or.inr ⟨by rfl, rfl⟩) hB3 ?_
                simp only [Act.put, List.setIfInBounds_toArray, List.set_cons_zero, List.set_cons_succ]
                refine wpAnyH_take (i := 26) (oi := { dst := some 52, op := Op.move (Operand.tmp 3), type := 3, pos := _, after := #[{ on := 23, ground := Ground.guard }], guard := some (23, true) }) (v := undef) rfl (by kernel_rfl) (by kernel_rfl) (by kernel_rfl) (fun _ _ _ h => h) (Or.inr ⟨by rfl, rfl⟩) hB3 ?_
                simp only [Act.put, List.setIfInBounds_toArray, List.set_cons_zero, List.set_cons_succ]
                refine wpAnyH_take (i := 27) (oi := { dst := some 53, op := Op.indexAddr 23 (Operand.tmp 51) (Operand.tmp 52), type := 0, pos := _, after := #[{ on := 25, ground := Ground.data }, { on := 26, ground := Ground.data }, { on := 23, ground := Ground.guard }], guard := some (23, true) }) (v := undef) rfl (by kernel_rfl) (by kernel_rfl) (by kernel_rfl) (fun _ _ _ h => h) (Or.inr ⟨by rfl, rfl⟩) hB3 ?_
                simp only [Act.put, List.setIfInBounds_toArray, List.set_cons_zero, List.set_cons_succ]
                refine wpAnyH_take (i := 28) (oi := { dst := some 54, op := Op.fieldAddr 37 (Operand.tmp 53) 0, type := 0, pos := _, after := #[{ on := 27, ground := Ground.data }, { on := 23, ground := Ground.guard }], guard := some (23, true) }) (v := undef) rfl (by kernel_rfl) (by kernel_rfl) (by kernel_rfl) (fun _ _ _ h => h) (Or.inr ⟨by rfl, rfl⟩) hB3 ?_
                simp only [Act.put, List.setIfInBounds_toArray, List.set_cons_zero, List.set_cons_succ]
                refine wpAnyH_take (i := 29) (oi := { dst := some 55, op := Op.load 27 (Operand.tmp 54), type := 27, pos := _, after := #[{ on := 28, ground := Ground.data }, { on := 23, ground := Ground.guard }], guard := some (23, true) }) (v := undef) rfl (by kernel_rfl) (by kernel_rfl) (by kernel_rfl) (fun _ _ _ h => h) (Or.inr ⟨by rfl, rfl⟩) hB3 ?_
                simp only [Act.put, List.setIfInBounds_toArray, List.set_cons_zero, List.set_cons_succ]
                refine wpAnyH_take (i := 30) (oi := { dst := some 56, op := Op.fieldAddr 26 (Operand.tmp 1) 1, type := 0, pos := _, after := #[{ on := 23, ground := Ground.guard }], guard := some (23, true) }) (v := undef) rfl (by kernel_rfl) (by kernel_rfl) (by kernel_rfl) (fun _ _ _ h => h) (Or.inr ⟨by rfl, rfl⟩) hB3 ?_
                simp only [Act.put, List.setIfInBounds_toArray, List.set_cons_zero, List.set_cons_succ]
                refine wpAnyH_take (i := 31) (oi := { dst := some 57, op := Op.load 23 (Operand.tmp 56), type := 23, pos := _, after := #[{ on := 30, ground := Ground.data }, { on := 23, ground := Ground.guard }], guard := some (23, true) }) (v := undef) rfl (by kernel_rfl) (by kernel_rfl) (by kernel_rfl) (fun _ _ _ h => h) (Or.inr ⟨by rfl, rfl⟩) hB3 ?_
                simp only [Act.put, List.setIfInBounds_toArray, List.set_cons_zero, List.set_cons_succ]
                refine wpAnyH_take (i := 32) (oi := { dst := some 58, op := Op.move (Operand.tmp 3), type := 3, pos := _, after := #[{ on := 23, ground := Ground.guard }], guard := some (23, true) }) (v := undef) rfl (by kernel_rfl) (by kernel_rfl) (by kernel_rfl) (fun _ _ _ h => h) (Or.inr ⟨by rfl, rfl⟩) hB3 ?_
                simp only [Act.put, List.setIfInBounds_toArray, List.set_cons_zero, List.set_cons_succ]
                refine wpAnyH_take (i := 33) (oi := { dst := some 59, op := Op.indexAddr 23 (Operand.tmp 57) (Operand.tmp 58), type := 0, pos := _, after := #[{ on := 31, ground := Ground.data }, { on := 32, ground := Ground.data }, { on := 23, ground := Ground.guard }], guard := some (23, true) }) (v := undef) rfl (by kernel_rfl) (by kernel_rfl) (by kernel_rfl) (fun _ _ _ h => h) (Or.inr ⟨by rfl, rfl⟩) hB3 ?_
                simp only [Act.put, List.setIfInBounds_toArray, List.set_cons_zero, List.set_cons_succ]
                refine wpAnyH_take (i := 34) (oi := { dst := some 60, op := Op.fieldAddr 37 (Operand.tmp 59) 0, type := 0, pos := _, after := #[{ on := 33, ground := Ground.data }, { on := 23, ground := Ground.guard }], guard := some (23, true) }) (v := undef) rfl (by kernel_rfl) (by kernel_rfl) (by kernel_rfl) (fun _ _ _ h => h) (Or.inr ⟨by rfl, rfl⟩) hB3 ?_
                simp only [Act.put, List.setIfInBounds_toArray, List.set_cons_zero, List.set_cons_succ]
                refine wpAnyH_take (i := 35) (oi := { dst := some 61, op := Op.load 27 (Operand.tmp 60), type := 27, pos := _, after := #[{ on := 34, ground := Ground.data }, { on := 23, ground := Ground.guard }], guard := some (23, true) }) (v := undef) rfl (by kernel_rfl) (by kernel_rfl) (by kernel_rfl) (fun _ _ _ h => h) (Or.inr ⟨by rfl, rfl⟩) hB3 ?_
                simp only [Act.put, List.setIfInBounds_toArray, List.set_cons_zero, List.set_cons_succ]
                refine wpAnyH_take (i := 36) (oi := { dst := some 62, op := Op.call { callee := Callee.value (Operand.func 85), args := #[Operand.tmp 55, Operand.tmp 61], argTypes := #[27, 27] }, type := 4, pos := _, after := #[{ on := 29, ground := Ground.data }, { on := 35, ground := Ground.data }, { on := 23, ground := Ground.chain }, { on := 23, ground := Ground.guard }], guard := some (23, true) }) (v := undef) rfl (by kernel_rfl) (by kernel_rfl) (by kernel_rfl) (fun _ _ _ h => h) (Or.inr ⟨by rfl, rfl⟩) hB3 ?_
                simp only [Act.put, List.setIfInBounds_toArray, List.set_cons_zero, List.set_cons_succ]
                refine wpAnyH_take (i := 37) (oi := { dst := some 63, op := Op.unOp UnOp.not 4 (Operand.tmp 62), type := 4, pos := _, after := #[{ on := 36, ground := Ground.data }, { on := 23, ground := Ground.guard }], guard := some (23, true) }) (v := undef) rfl (by kernel_rfl) (by kernel_rfl) (by kernel_rfl) (fun _ _ _ h => h) (Or.inr ⟨by rfl, rfl⟩) hB3 ?_
                simp only [Act.put, List.setIfInBounds_toArray, List.set_cons_zero, List.set_cons_succ]
                refine wpAnyH_take (i := 38) (oi := { dst := some 64, op := Op.pick (Operand.tmp 49) (Operand.tmp 63) (Operand.const (Value.bool false)), type := 4, pos := _, after := #[{ on := 23, ground := Ground.data }, { on := 37, ground := Ground.data }, { on := 16, ground := Ground.guard }], guard := some (16, false) }) (v := .bool false) rfl (by kernel_rfl) (by kernel_rfl) (by kernel_rfl) (fun _ _ _ h => h) (Or.inl ⟨by rfl, fun w' hS => by (try dsimp only at hS); go_simp⟩) hB3 ?_
                simp only [Act.put, List.setIfInBounds_toArray, List.set_cons_zero, List.set_cons_succ]
                refine wpAnyH_take (i := 39) (oi := { dst := some 65, op := Op.pick (Operand.tmp 42) (Operand.const (Value.bool true)) (Operand.tmp 64), type := 4, pos := _, after := #[{ on := 16, ground := Ground.data }, { on := 38, ground := Ground.data }], guard := none }) (v := .bool false) rfl (by kernel_rfl) (by kernel_rfl) (by kernel_rfl) (fun _ _ _ h => h) (Or.inl ⟨by rfl, fun w' hS => by (try dsimp only at hS); go_simp⟩) hB3 ?_
                simp only [Act.put, List.setIfInBounds_toArray, List.set_cons_zero, List.set_cons_succ]
                refine wpAnyH_done (by kernel_rfl) ?_ _
                refine NoPanic.normal ?_
                clear R0 R1 R2 R3 R4 R5
                go_wp2
                go_roundw
                case rel => exact ⟨k + 1, by omega, by go_num, NX.out, HBB.out.trans (by assumption)⟩
                case measure => simp [intOf]; omega
            · have BAD : Hid (¬ MD.Good ⟨12, 12, 12, l1, l2, v1, v2, dd⟩) := fun g => ok (g.ok k hlt)
              have rd : Blw wr wr.drew := rr.drew
              by_cases oa : lineOK (l1 k) (v1 k)
              · by_cases ob : lineOK (l2 k) (v2 k)
                · have hx : dd k = false ∧ ∃ j, j < 4 ∧ ¬ v1 k j = v2 k j := Classical.byContradiction fun hh => ok ⟨oa, ob, fun h1 j hj => Classical.byContradiction fun h2 => hh ⟨h1, j, hj, h2⟩⟩
                  obtain ⟨hdk, j, hj, hne⟩ := hx
                  rw [hdk] at R5
                  have OA : Hid (lineOK (l1 k) (v1 k)) := oa
                  have OB : Hid (lineOK (l2 k) (v2 k)) := ob
                  have HNE : Hid (¬ v1 k j = v2 k j) := hne
                  clear ok oa ob hdk hne rd
                  revert R3 R4 K1 K2 OA OB
                  generalize l1 k = m1
                  generalize l2 k = m2
                  intro R3 R4 K1 K2 OA OB
                  obtain rfl : m1 = 4 := OA.out.1
                  obtain rfl : m2 = 4 := OB.out.1
                  go_wp2
                  go_region_held3 (fun w' => Blw wr w') (((repeat (first | assumption | apply Blw.drewN | apply Blw.drew | apply Blw.alloc | (refine Blw.trans ?_ (by assumption)) | exact Blw.refl _)))) (first
                    | (go_at_call_of 84 e1; refine (l1Line_yes _ _ _ (v1 k) Y _ (K1.out _ (by assumption)) OA.out).mono ?_; rintro e w' ⟨rfl, hbA⟩)
                    | (go_at_call_of 84 e2; refine (l1Line_yes _ _ _ (v2 k) Y _ (K2.out _ (by assumption)) OB.out).mono ?_; rintro e w' ⟨rfl, hbA⟩)
                    | (go_at_call 85; refine (l1Same_no _ _ _ _ 4 (v1 k) (v2 k) _ (K1.out _ (by assumption)) (K2.out _ (by assumption)) j hj HNE.out).mono ?_; rintro e w' ⟨rfl, nn, rfl⟩))
                  all_goals go_wp2
                  all_goals go_ret
                  all_goals first | exact ⟨false, rfl, ⟨fun h => absurd h (by decide), fun g => absurd g BAD.out⟩, HB.out _ (by assumption)⟩ | exact ⟨false, rfl, ⟨fun h => absurd h (by decide), fun g => absurd g BAD.out⟩, HB.out _ (Blw.drewN (by assumption) _)⟩
                · have OA : Hid (lineOK (l1 k) (v1 k)) := oa
                  have OB : Hid (¬ lineOK (l2 k) (v2 k)) := ob
                  clear ok oa ob
                  revert R3 R4 K1 K2 OA OB
                  generalize l1 k = m1
                  generalize l2 k = m2
                  intro R3 R4 K1 K2 OA OB
                  go_wp2
                  refine wp_region_noPanic ?_
                  refine wp_region_held_drew (S := fun w' => Blw wr w') (by kernel_rfl) rd (fun hB1 => ?_)
                  clear rd
                  revert hB1
                  generalize wr.drew = w1
                  intro hB1
                  refine wpAnyH_take (i := 0) (oi := { dst := some 26, op := Op.fieldAddr 26 (Operand.tmp 1) 0, type := 0, pos := _, after := #[], guard := none }) (v := .pointer (some ⟨w.heap.size, 0, none⟩)) rfl (by kernel_rfl) (by kernel_rfl) (by kernel_rfl) (fun _ _ _ h => h) (Or.inl ⟨by rfl, fun w' hS => by (try dsimp only at hS); go_simp⟩) hB1 ?_
                  simp only [Act.put, List.setIfInBounds_toArray, List.set_cons_zero, List.set_cons_succ]
                  refine wpAnyH_take (i := 1) (oi := { dst := some 27, op := Op.load 23 (Operand.tmp 26), type := 23, pos := _, after := #[{ on := 0, ground := Ground.data }], guard := none }) (v := .slice (some ⟨b1, o1, none⟩) 12 c1) rfl (by kernel_rfl) (by kernel_rfl) (by kernel_rfl) (fun _ _ _ h => h) (Or.inl ⟨by rfl, fun w' hS => by (try dsimp only at hS); go_simp⟩) hB1 ?_
                  simp only [Act.put, List.setIfInBounds_toArray, List.set_cons_zero, List.set_cons_succ]
                  refine wpAnyH_take (i := 2) (oi := { dst := some 28, op := Op.move (Operand.tmp 3), type := 3, pos := _, after := #[], guard := none }) (v := .int .i64 k) rfl (by kernel_rfl) (by kernel_rfl) (by kernel_rfl) (fun _ _ _ h => h) (Or.inl ⟨by rfl, fun w' hS => by (try dsimp only at hS); go_simp⟩) hB1 ?_
                  simp only [Act.put, List.setIfInBounds_toArray, List.set_cons_zero, List.set_cons_succ]
                  refine wpAnyH_take (i := 3) (oi := { dst := some 29, op := Op.indexAddr 23 (Operand.tmp 27) (Operand.tmp 28), type := 0, pos := _, after := #[{ on := 1, ground := Ground.data }, { on := 2, ground := Ground.data }], guard := none }) (v := .pointer (some ⟨b1, o1 + k, none⟩)) rfl (by kernel_rfl) (by kernel_rfl) (by kernel_rfl) (fun _ _ _ h => h) (Or.inl ⟨by rfl, fun w' hS => by (try dsimp only at hS); go_simp⟩) hB1 ?_
                  simp only [Act.put, List.setIfInBounds_toArray, List.set_cons_zero, List.set_cons_succ]
                  refine wpAnyH_take (i := 4) (oi := { dst := some 30, op := Op.load 37 (Operand.tmp 29), type := 37, pos := _, after := #[{ on := 3, ground := Ground.data }], guard := none }) (v := .agg #[.slice e1 m1 ce1]) rfl (by kernel_rfl) (by kernel_rfl) (by kernel_rfl) (fun _ _ _ h => h) (Or.inl ⟨by rfl, fun w' hS => by (try dsimp only at hS); go_simp⟩) hB1 ?_
                  simp only [Act.put, List.setIfInBounds_toArray, List.set_cons_zero, List.set_cons_succ]
                  refine wpAnyH_ready (rs := [5]) (by kernel_rfl) (by simp) ?_
                  refine AllReadyH.cons (o := { dst := some 31, op := Op.call { callee := Callee.value (Operand.func 84), args := #[Operand.tmp 30], argTypes := #[37] }, type := 4, pos := _, after := #[{ on := 4, ground := Ground.data }], guard := none }) rfl (fun K hK => ?_) AllReadyH.nil
                  go_simp
                  refine (l1Line_yes _ _ _ (v1 k) Y _ (K1.out _ hB1) OA.out).mono ?_
                  rintro e w2 ⟨rfl, hb2⟩
                  refine hK.out _ _ (hB1.trans hb2) (fun hB2 => ?_)
                  clear hK K hb2
                  try simp only [Act.put, List.setIfInBounds_toArray, List.set_cons_zero, List.set_cons_succ]
                  refine wpAnyH_take (i := 6) (oi := { dst := some 32, op := Op.unOp UnOp.not 4 (Operand.tmp 31), type := 4, pos := _, after := #[{ on := 5, ground := Ground.data }], guard := none }) (v := .bool false) rfl (by kernel_rfl) (by kernel_rfl) (by kernel_rfl) (fun _ _ _ h => h) (Or.inl ⟨by rfl, fun w' hS => by (try dsimp only at hS); go_simp⟩) hB2 ?_
                  simp only [Act.put, List.setIfInBounds_toArray, List.set_cons_zero, List.set_cons_succ]
                  refine wpAnyH_take (i := 7) (oi := { dst := some 33, op := Op.move (Operand.tmp 32), type := 4, pos := _, after := #[{ on := 6, ground := Ground.data }, { on := 5, ground := Ground.chain }], guard := none }) (v := .bool false) rfl (by kernel_rfl) (by kernel_rfl) (by kernel_rfl) (fun _ _ _ h => h) (Or.inl ⟨by rfl, fun w' hS => by (try dsimp only at hS); go_simp⟩) hB2 ?_
                  simp only [Act.put, List.setIfInBounds_toArray, List.set_cons_zero, List.set_cons_succ]
                  refine wpAnyH_take (i := 8) (oi := { dst := some 34, op := Op.fieldAddr 26 (Operand.tmp 1) 1, type := 0, pos := _, after := #[{ on := 7, ground := Ground.guard }], guard := some (7, false) }) (v := .pointer (some ⟨w.heap.size, 1, none⟩)) rfl (by kernel_rfl) (by kernel_rfl) (by kernel_rfl) (fun _ _ _ h => h) (Or.inl ⟨by rfl, fun w' hS => by (try dsimp only at hS); go_simp⟩) hB2 ?_
                  simp only [Act.put, List.setIfInBounds_toArray, List.set_cons_zero, List.set_cons_succ]
                  refine wpAnyH_take (i := 9) (oi := { dst := some 35, op := Op.load 23 (Operand.tmp 34), type := 23, pos := _, after := #[{ on := 8, ground := Ground.data }, { on := 7, ground := Ground.guard }], guard := some (7, false) }) (v := .slice (some ⟨b2, o2, none⟩) 12 c2) rfl (by kernel_rfl) (by kernel_rfl) (by kernel_rfl) (fun _ _ _ h => h) (Or.inl ⟨by rfl, fun w' hS => by (try dsimp only at hS); go_simp⟩) hB2 ?_
                  simp only [Act.put, List.setIfInBounds_toArray, List.set_cons_zero, List.set_cons_succ]
                  refine wpAnyH_take (i := 10) (oi := { dst := some 36, op := Op.move (Operand.tmp 3), type := 3, pos := _, after := #[{ on := 7, ground := Ground.guard }], guard := some (7, false) }) (v := .int .i64 k) rfl (by kernel_rfl) (by kernel_rfl) (by kernel_rfl) (fun _ _ _ h => h) (Or.inl ⟨by rfl, fun w' hS => by (try dsimp only at hS); go_simp⟩) hB2 ?_
                  simp only [Act.put, List.setIfInBounds_toArray, List.set_cons_zero, List.set_cons_succ]
                  refine wpAnyH_take (i := 11) (oi := { dst := some 37, op := Op.indexAddr 23 (Operand.tmp 35) (Operand.tmp 36), type := 0, pos := _, after := #[{ on := 9, ground := Ground.data }, { on := 10, ground := Ground.data }, { on := 7, ground := Ground.guard }], guard := some (7, false) }) (v := .pointer (some ⟨b2, o2 + k, none⟩)) rfl (by kernel_rfl) (by kernel_rfl) (by kernel_rfl) (fun _ _ _ h => h) (Or.inl ⟨by rfl, fun w' hS => by (try dsimp only at hS); go_simp⟩) hB2 ?_
                  simp only [Act.put, List.setIfInBounds_toArray, List.set_cons_zero, List.set_cons_succ]
                  refine wpAnyH_take (i := 12) (oi := { dst := some 38, op := Op.load 37 (Operand.tmp 37), type := 37, pos := _, after := #[{ on := 11, ground := Ground.data }, { on := 7, ground := Ground.guard }], guard := some (7, false) }) (v := .agg #[.slice e2 m2 ce2]) rfl (by kernel_rfl) (by kernel_rfl) (by kernel_rfl) (fun _ _ _ h => h) (Or.inl ⟨by rfl, fun w' hS => by (try dsimp only at hS); go_simp⟩) hB2 ?_
                  simp only [Act.put, List.setIfInBounds_toArray, List.set_cons_zero, List.set_cons_succ]
                  refine wpAnyH_ready (rs := [13]) (by kernel_rfl) (by simp) ?_
                  refine AllReadyH.cons (o := { dst := some 39, op := Op.call { callee := Callee.value (Operand.func 84), args := #[Operand.tmp 38], argTypes := #[37] }, type := 4, pos := _, after := #[{ on := 12, ground := Ground.data }, { on := 7, ground := Ground.chain }, { on := 7, ground := Ground.guard }], guard := some (7, false) }) rfl (fun K hK => ?_) AllReadyH.nil
                  go_simp
                  refine (l1Line_no _ _ _ (v2 k) Y _ (K2.out _ hB2) OB.out).mono ?_
                  rintro e w3 ⟨rfl, hb3⟩
                  refine hK.out _ _ (hB2.trans hb3) (fun hB3 => ?_)
                  clear hK K hb3
                  try simp only [Act.put, List.setIfInBounds_toArray, List.set_cons_zero, List.set_cons_succ]
                  refine wpAnyH_take (i := 14) (oi := { dst := some 40, op := Op.unOp UnOp.not 4 (Operand.tmp 39), type := 4, pos := _, after := #[{ on := 13, ground := Ground.data }, { on := 7, ground := Ground.guard }], guard := some (7, false) }) (v := .bool true) rfl (by kernel_rfl) (by kernel_rfl) (by kernel_rfl) (fun _ _ _ h => h) (Or.inl ⟨by rfl, fun w' hS => by (try dsimp only at hS); go_simp⟩) hB3 ?_
                  simp only [Act.put, List.setIfInBounds_toArray, List.set_cons_zero, List.set_cons_succ]
                  refine wpAnyH_take (i := 15) (oi := { dst := some 41, op := Op.pick (Operand.tmp 33) (Operand.const (Value.bool true)) (Operand.tmp 40), type := 4, pos := _, after := #[{ on := 7, ground := Ground.data }, { on := 14, ground := Ground.data }], guard := none }) (v := .bool true) rfl (by kernel_rfl) (by kernel_rfl) (by kernel_rfl) (fun _ _ _ h => h) (Or.inl ⟨by rfl, fun w' hS => by (try dsimp only at hS); go_simp⟩) hB3 ?_
                  simp only [Act.put, List.setIfInBounds_toArray, List.set_cons_zero, List.set_cons_succ]
                  refine wpAnyH_take (i := 16) (oi := { dst := some 42, op := Op.move (Operand.tmp 41), type := 4, pos := _, after := #[{ on := 15, ground := Ground.data }, { on := 13, ground := Ground.chain }], guard := none }) (v := .bool true) rfl (by kernel_rfl) (by kernel_rfl) (by kernel_rfl) (fun _ _ _ h => h) (Or.inl ⟨by rfl, fun w' hS => by (try dsimp only at hS); go_simp⟩) hB3 ?_
                  simp only [Act.put, List.setIfInBounds_toArray, List.set_cons_zero, List.set_cons_succ]
                  refine wpAnyH_take (i := 17) (oi := { dst := some 43, op := Op.fieldAddr 26 (Operand.tmp 1) 2, type := 0, pos := _, after := #[{ on := 16, ground := Ground.guard }], guard := some (16, false) }) (v := undef) rfl (by kernel_rfl) (by kernel_rfl) (by kernel_rfl) (fun _ _ _ h => h) (Or.inr ⟨by rfl, rfl⟩) hB3 ?_
                  simp only [Act.put, List.setIfInBounds_toArray, List.set_cons_zero, List.set_cons_succ]
                  refine wpAnyH_take (i := 18) (oi := { dst := some 44, op := Op.load 24 (Operand.tmp 43), type := 24, pos := _, after := #[{ on := 17, ground := Ground.data }, { on := 16, ground := Ground.guard }], guard := some (16, false) }) (v := undef) rfl (by kernel_rfl) (by kernel_rfl) (by kernel_rfl) (fun _ _ _ h => h) (Or.inr ⟨by rfl, rfl⟩) hB3 ?_
                  simp only [Act.put, List.setIfInBounds_toArray, List.set_cons_zero, List.set_cons_succ]
                  refine wpAnyH_take (i := 19) (oi := { dst := some 45, op := Op.move (Operand.tmp 3), type := 3, pos := _, after := #[{ on := 16, ground := Ground.guard }], guard := some (16, false) }) (v := undef) rfl (by kernel_rfl) (by kernel_rfl) (by kernel_rfl) (fun _ _ _ h => h) (Or.inr ⟨by rfl, rfl⟩) hB3 ?_
                  simp only [Act.put, List.setIfInBounds_toArray, List.set_cons_zero, List.set_cons_succ]
                  refine wpAnyH_take (i := 20) (oi := { dst := some 46, op := Op.indexAddr 24 (Operand.tmp 44) (Operand.tmp 45), type := 0, pos := _, after := #[{ on := 18, ground := Ground.data }, { on := 19, ground := Ground.data }, { on := 16, ground := Ground.guard }], guard := some (16, false) }) (v := undef) rfl (by kernel_rfl) (by kernel_rfl) (by kernel_rfl) (fun _ _ _ h => h) (Or.inr ⟨by rfl, rfl⟩) hB3 ?_
                  simp only [Act.put, List.setIfInBounds_toArray, List.set_cons_zero, List.set_cons_succ]
                  refine wpAnyH_take (i := 21) (oi := { dst := some 47, op := Op.load 4 (Operand.tmp 46), type := 4, pos := _, after := #[{ on := 20, ground := Ground.data }, { on := 16, ground := Ground.guard }], guard := some (16, false) }) (v := undef) rfl (by kernel_rfl) (by kernel_rfl) (by kernel_rfl) (fun _ _ _ h => h) (Or.inr ⟨by rfl, rfl⟩) hB3 ?_
                  simp only [Act.put, List.setIfInBounds_toArray, List.set_cons_zero, List.set_cons_succ]
                  refine wpAnyH_take (i := 22) (oi := { dst := some 48, op := Op.unOp UnOp.not 4 (Operand.tmp 47), type := 4, pos := _, after := #[{ on := 21, ground := Ground.data }, { on := 16, ground := Ground.guard }], guard := some (16, false) }) (v := undef) rfl (by kernel_rfl) (by kernel_rfl) (by kernel_rfl) (fun _ _ _ h => h) (Or.inr ⟨by rfl, rfl⟩) hB3 ?_
                  simp only [Act.put, List.setIfInBounds_toArray, List.set_cons_zero, List.set_cons_succ]
                  refine wpAnyH_take (i := 23) (oi := { dst := some 49, op := Op.move (Operand.tmp 48), type := 4, pos := _, after := #[{ on := 22, ground := Ground.data }, { on := 16, ground := Ground.chain }, { on := 16, ground := Ground.guard }], guard := some (16, false) }) (v := undef) rfl (by kernel_rfl) (by kernel_rfl) (by kernel_rfl) (fun _ _ _ h => h) (Or.inr ⟨by rfl, rfl⟩) hB3 ?_
                  simp only [Act.put, List.setIfInBounds_toArray, List.set_cons_zero, List.set_cons_succ]
                  refine wpAnyH_take (i := 24) (oi := { dst := some 50, op := Op.fieldAddr 26 (Operand.tmp 1) 0, type := 0, pos := _, after := #[{ on := 23, ground := Ground.guard }], guard := some (23, true) }) (v := undef) rfl (by kernel_rfl) (by kernel_rfl) (by kernel_rfl) (fun _ _ _ h => h) (Or.inr ⟨by rfl, rfl⟩) hB3 ?_
                  simp only [Act.put, List.setIfInBounds_toArray, List.set_cons_zero, List.set_cons_succ]
                  refine wpAnyH_take (i := 25) (oi := { dst := some 51, op := Op.load 23 (Operand.tmp 50), type := 23, pos := _, after := #[{ on := 24, ground := Ground.data }, { on := 23, ground := Ground.guard }], guard := some (23, true) }) (v := undef) rfl (by kernel_rfl) (by kernel_rfl) (by kernel_rfl) (fun _ _ _ h => h) (Or.inr ⟨by rfl, rfl⟩) hB3 ?_
                  simp only [Act.put, List.setIfInBounds_toArray, List.set_cons_zero, List.set_cons_succ]
                  refine wpAnyH_take (i := 26) (oi := { dst := some 52, op := Op.move (Operand.tmp 3), type := 3, pos := _, after := #[{ on := 23, ground := Ground.guard }], guard := some (23, true) }) (v := undef) rfl (by kernel_rfl) (by kernel_rfl) (by kernel_rfl) (fun _ _ _ h => h) (Or.inr ⟨by rfl, rfl⟩) hB3 ?_
                  simp only [Act.put, List.setIfInBounds_toArray, List.set_cons_zero, List.set_cons_succ]
                  refine wpAnyH_take (i := 27) (oi := { dst := some 53, op := Op.indexAddr 23 (Operand.tmp 51) (Operand.tmp 52), type := 0, pos := _, after := #[{ on := 25, ground := Ground.data }, { on := 26, ground := Ground.data }, { on := 23, ground := Ground.guard }], guard := some (23, true) }) (v := undef) rfl (by kernel_rfl) (by kernel_rfl) (by kernel_rfl) (fun _ _ _ h => h) (Or.inr ⟨by rfl, rfl⟩) hB3 ?_
                  simp only [Act.put, List.setIfInBounds_toArray, List.set_cons_zero, List.set_cons_succ]
                  refine wpAnyH_take (i := 28) (oi := { dst := some 54, op := Op.fieldAddr 37 (Operand.tmp 53) 0, type := 0, pos := _, after := #[{ on := 27, ground := Ground.data }, { on := 23, ground := Ground.guard }], guard := some (23, true) }) (v := undef) rfl (by kernel_rfl) (by kernel_rfl) (by kernel_rfl) (fun _ _ _ h => h) (Or.inr ⟨by rfl, rfl⟩) hB3 ?_
                  simp only [Act.put, List.setIfInBounds_toArray, List.set_cons_zero, List.set_cons_succ]
                  refine wpAnyH_take (i := 29) (oi := { dst := some 55, op := Op.load 27 (Operand.tmp 54), type := 27, pos := _, after := #[{ on := 28, ground := Ground.data }, { on := 23, ground := Ground.guard }], guard := some (23, true) }) (v := undef) rfl (by kernel_rfl) (by kernel_rfl) (by kernel_rfl) (fun _ _ _ h => h) (Or.inr ⟨by rfl, rfl⟩) hB3 ?_
                  simp only [Act.put, List.setIfInBounds_toArray, List.set_cons_zero, List.set_cons_succ]
                  refine wpAnyH_take (i := 30) (oi := { dst := some 56, op := Op.fieldAddr 26 (Operand.tmp 1) 1, type := 0, pos := _, after := #[{ on := 23, ground := Ground.guard }], guard := some (23, true) }) (v := undef) rfl (by kernel_rfl) (by kernel_rfl) (by kernel_rfl) (fun _ _ _ h => h) (Or.inr ⟨by rfl, rfl⟩) hB3 ?_
                  simp only [Act.put, List.setIfInBounds_toArray, List.set_cons_zero, List.set_cons_succ]
                  refine wpAnyH_take (i := 31) (oi := { dst := some 57, op := Op.load 23 (Operand.tmp 56), type := 23, pos := _, after := #[{ on := 30, ground := Ground.data }, { on := 23, ground := Ground.guard }], guard := some (23, true) }) (v := undef) rfl (by kernel_rfl) (by kernel_rfl) (by kernel_rfl) (fun _ _ _ h => h) (Or.inr ⟨by rfl, rfl⟩) hB3 ?_
                  simp only [Act.put, List.setIfInBounds_toArray, List.set_cons_zero, List.set_cons_succ]
                  refine wpAnyH_take (i := 32) (oi := { dst := some 58, op := Op.move (Operand.tmp 3), type := 3, pos := _, after := #[{ on := 23, ground := Ground.guard }], guard := some (23, true) }) (v := undef) rfl (by kernel_rfl) (by kernel_rfl) (by kernel_rfl) (fun _ _ _ h => h) (Or.inr ⟨by rfl, rfl⟩) hB3 ?_
                  simp only [Act.put, List.setIfInBounds_toArray, List.set_cons_zero, List.set_cons_succ]
                  refine wpAnyH_take (i := 33) (oi := { dst := some 59, op := Op.indexAddr 23 (Operand.tmp 57) (Operand.tmp 58), type := 0, pos := _, after := #[{ on := 31, ground := Ground.data }, { on := 32, ground := Ground.data }, { on := 23, ground := Ground.guard }], guard := some (23, true) }) (v := undef) rfl (by kernel_rfl) (by kernel_rfl) (by kernel_rfl) (fun _ _ _ h => h) (Or.inr ⟨by rfl, rfl⟩) hB3 ?_
                  simp only [Act.put, List.setIfInBounds_toArray, List.set_cons_zero, List.set_cons_succ]
                  refine wpAnyH_take (i := 34) (oi := { dst := some 60, op := Op.fieldAddr 37 (Operand.tmp 59) 0, type := 0, pos := _, after := #[{ on := 33, ground := Ground.data }, { on := 23, ground := Ground.guard }], guard := some (23, true) }) (v := undef) rfl (by kernel_rfl) (by kernel_rfl) (by kernel_rfl) (fun _ _ _ h => h) (Or.inr ⟨by rfl, rfl⟩) hB3 ?_
                  simp only [Act.put, List.setIfInBounds_toArray, List.set_cons_zero, List.set_cons_succ]
                  refine wpAnyH_take (i := 35) (oi := { dst := some 61, op := Op.load 27 (Operand.tmp 60), type := 27, pos := _, after := #[{ on := 34, ground := Ground.data }, { on := 23, ground := Ground.guard }], guard := some (23, true) }) (v := undef) rfl (by kernel_rfl) (by kernel_rfl) (by kernel_rfl) (fun _ _ _ h => h) (Or.inr ⟨by rfl, rfl⟩) hB3 ?_
                  simp only [Act.put, List.setIfInBounds_toArray, List.set_cons_zero, List.set_cons_succ]
                  refine wpAnyH_take (i := 36) (oi := { dst := some 62, op := Op.call { callee := Callee.value (Operand.func 85), args := #[Operand.tmp 55, Operand.tmp 61], argTypes := #[27, 27] }, type := 4, pos := _, after := #[{ on := 29, ground := Ground.data }, { on := 35, ground := Ground.data }, { on := 23, ground := Ground.chain }, { on := 23, ground := Ground.guard }], guard := some (23, true) }) (v := undef) rfl (by kernel_rfl) (by kernel_rfl) (by kernel_rfl) (fun _ _ _ h => h) (Or.inr ⟨by rfl, rfl⟩) hB3 ?_
                  simp only [Act.put, List.setIfInBounds_toArray, List.set_cons_zero, List.set_cons_succ]
                  refine wpAnyH_take (i := 37) (oi := { dst := some 63, op := Op.unOp UnOp.not 4 (Operand.tmp 62), type := 4, pos := _, after := #[{ on := 36, ground := Ground.data }, { on := 23, ground := Ground.guard }], guard := some (23, true) }) (v := undef) rfl (by kernel_rfl) (by kernel_rfl) (by kernel_rfl) (fun _ _ _ h => h) (Or.inr ⟨by rfl, rfl⟩) hB3 ?_
                  simp only [Act.put, List.setIfInBounds_toArray, List.set_cons_zero, List.set_cons_succ]
                  refine wpAnyH_take (i := 38) (oi := { dst := some 64, op := Op.pick (Operand.tmp 49) (Operand.tmp 63) (Operand.const (Value.bool false)), type := 4, pos := _, after := #[{ on := 23, ground := Ground.data }, { on := 37, ground := Ground.data }, { on := 16, ground := Ground.guard }], guard := some (16, false) }) (v := undef) rfl (by kernel_rfl) (by kernel_rfl) (by kernel_rfl) (fun _ _ _ h => h) (Or.inr ⟨by rfl, rfl⟩) hB3 ?_
                  simp only [Act.put, List.setIfInBounds_toArray, List.set_cons_zero, List.set_cons_succ]
                  refine wpAnyH_take (i := 39) (oi := { dst := some 65, op := Op.pick (Operand.tmp 42) (Operand.const (Value.bool true)) (Operand.tmp 64), type := 4, pos := _, after := #[{ on := 16, ground := Ground.data }, { on := 38, ground := Ground.data }], guard := none }) (v := .bool true) rfl (by kernel_rfl) (by kernel_rfl) (by kernel_rfl) (fun _ _ _ h => h) (Or.inl ⟨by rfl, fun w' hS => by (try dsimp only at hS); go_simp⟩) hB3 ?_
                  simp only [Act.put, List.setIfInBounds_toArray, List.set_cons_zero, List.set_cons_succ]
                  refine wpAnyH_done (by kernel_rfl) ?_ _
                  refine NoPanic.normal ?_
                  clear R0 R1 R2 R3 R4 R5
                  go_wp2
                  all_goals go_ret
                  all_goals exact ⟨false, rfl, ⟨fun h => absurd h (by decide), fun g => absurd g BAD.out⟩, HB.out _ (by assumption)⟩
              · have OA : Hid (¬ lineOK (l1 k) (v1 k)) := oa
                clear ok oa
                revert R3 R4 K1 K2 OA
                generalize l1 k = m1
                generalize l2 k = m2
                intro R3 R4 K1 K2 OA
                go_wp2
                refine wp_region_noPanic ?_
                refine wp_region_held_drew (S := fun w' => Blw wr w') (by kernel_rfl) rd (fun hB1 => ?_)
                clear rd
                revert hB1
                generalize wr.drew = w1
                intro hB1
                refine wpAnyH_take (i := 0) (oi := { dst := some 26, op := Op.fieldAddr 26 (Operand.tmp 1) 0, type := 0, pos := _, after := #[], guard := none }) (v := .pointer (some ⟨w.heap.size, 0, none⟩)) rfl (by kernel_rfl) (by kernel_rfl) (by kernel_rfl) (fun _ _ _ h => h) (Or.inl ⟨by rfl, fun w' hS => by (try dsimp only at hS); go_simp⟩) hB1 ?_
                simp only [Act.put, List.setIfInBounds_toArray, List.set_cons_zero, List.set_cons_succ]
                refine wpAnyH_take (i := 1) (oi := { dst := some 27, op := Op.load 23 (Operand.tmp 26), type := 23, pos := _, after := #[{ on := 0, ground := Ground.data }], guard := none }) (v := .slice (some ⟨b1, o1, none⟩) 12 c1) rfl (by kernel_rfl) (by kernel_rfl) (by kernel_rfl) (fun _ _ _ h => h) (Or.inl ⟨by rfl, fun w' hS => by (try dsimp only at hS); go_simp⟩) hB1 ?_
                simp only [Act.put, List.setIfInBounds_toArray, List.set_cons_zero, List.set_cons_succ]
                refine wpAnyH_take (i := 2) (oi := { dst := some 28, op := Op.move (Operand.tmp 3), type := 3, pos := _, after := #[], guard := none }) (v := .int .i64 k) rfl (by kernel_rfl) (by kernel_rfl) (by kernel_rfl) (fun _ _ _ h => h) (Or.inl ⟨by rfl, fun w' hS => by (try dsimp only at hS); go_simp⟩) hB1 ?_
                simp only [Act.put, List.setIfInBounds_toArray, List.set_cons_zero, List.set_cons_succ]
                refine wpAnyH_take (i := 3) (oi := { dst := some 29, op := Op.indexAddr 23 (Operand.tmp 27) (Operand.tmp 28), type := 0, pos := _, after := #[{ on := 1, ground := Ground.data }, { on := 2, ground := Ground.data }], guard := none }) (v := .pointer (some ⟨b1, o1 + k, none⟩)) rfl (by kernel_rfl) (by kernel_rfl) (by kernel_rfl) (fun _ _ _ h => h) (Or.inl ⟨by rfl, fun w' hS => by (try dsimp only at hS); go_simp⟩) hB1 ?_
                simp only [Act.put, List.setIfInBounds_toArray, List.set_cons_zero, List.set_cons_succ]
                refine wpAnyH_take (i := 4) (oi := { dst := some 30, op := Op.load 37 (Operand.tmp 29), type := 37, pos := _, after := #[{ on := 3, ground := Ground.data }], guard := none }) (v := .agg #[.slice e1 m1 ce1]) rfl (by kernel_rfl) (by kernel_rfl) (by kernel_rfl) (fun _ _ _ h => h) (Or.inl ⟨by rfl, fun w' hS => by (try dsimp only at hS); go_simp⟩) hB1 ?_
                simp only [Act.put, List.setIfInBounds_toArray, List.set_cons_zero, List.set_cons_succ]
                refine wpAnyH_ready (rs := [5]) (by kernel_rfl) (by simp) ?_
                refine AllReadyH.cons (o := { dst := some 31, op := Op.call { callee := Callee.value (Operand.func 84), args := #[Operand.tmp 30], argTypes := #[37] }, type := 4, pos := _, after := #[{ on := 4, ground := Ground.data }], guard := none }) rfl (fun K hK => ?_) AllReadyH.nil
                go_simp
                refine (l1Line_no _ _ _ (v1 k) Y _ (K1.out _ hB1) OA.out).mono ?_
                rintro e w2 ⟨rfl, hb2⟩
                refine hK.out _ _ (hB1.trans hb2) (fun hB2 => ?_)
                clear hK K hb2
                try simp only [Act.put, List.setIfInBounds_toArray, List.set_cons_zero, List.set_cons_succ]
                refine wpAnyH_take (i := 6) (oi := { dst := some 32, op := Op.unOp UnOp.not 4 (Operand.tmp 31), type := 4, pos := _, after := #[{ on := 5, ground := Ground.data }], guard := none }) (v := .bool true) rfl (by kernel_rfl) (by kernel_rfl) (by kernel_rfl) (fun _ _ _ h => h) (Or.inl ⟨by rfl, fun w' hS => by (try dsimp only at hS); go_simp⟩) hB2 ?_
                simp only [Act.put, List.setIfInBounds_toArray, List.set_cons_zero, List.set_cons_succ]
                refine wpAnyH_take (i := 7) (oi := { dst := some 33, op := Op.move (Operand.tmp 32), type := 4, pos := _, after := #[{ on := 6, ground := Ground.data }, { on := 5, ground := Ground.chain }], guard := none }) (v := .bool true) rfl (by kernel_rfl) (by kernel_rfl) (by kernel_rfl) (fun _ _ _ h => h) (Or.inl ⟨by rfl, fun w' hS => by (try dsimp only at hS); go_simp⟩) hB2 ?_
                simp only [Act.put, List.setIfInBounds_toArray, List.set_cons_zero, List.set_cons_succ]
                refine wpAnyH_take (i := 8) (oi := { dst := some 34, op := Op.fieldAddr 26 (Operand.tmp 1) 1, type := 0, pos := _, after := #[{ on := 7, ground := Ground.guard }], guard := some (7, false) }) (v := undef) rfl (by kernel_rfl) (by kernel_rfl) (by kernel_rfl) (fun _ _ _ h => h) (Or.inr ⟨by rfl, rfl⟩) hB2 ?_
                simp only [Act.put, List.setIfInBounds_toArray, List.set_cons_zero, List.set_cons_succ]
                refine wpAnyH_take (i := 9) (oi := { dst := some 35, op := Op.load 23 (Operand.tmp 34), type := 23, pos := _, after := #[{ on := 8, ground := Ground.data }, { on := 7, ground := Ground.guard }], guard := some (7, false) }) (v := undef) rfl (by kernel_rfl) (by kernel_rfl) (by kernel_rfl) (fun _ _ _ h => h) (Or.inr ⟨by rfl, rfl⟩) hB2 ?_
                simp only [Act.put, List.setIfInBounds_toArray, List.set_cons_zero, List.set_cons_succ]
                refine wpAnyH_take (i := 10) (oi := { dst := some 36, op := Op.move (Operand.tmp 3), type := 3, pos := _, after := #[{ on := 7, ground := Ground.guard }], guard := some (7, false) }) (v := undef) rfl (by kernel_rfl) (by kernel_rfl) (by kernel_rfl) (fun _ _ _ h => h) (Or.inr ⟨by rfl, rfl⟩) hB2 ?_
                simp only [Act.put, List.setIfInBounds_toArray, List.set_cons_zero, List.set_cons_succ]
                refine wpAnyH_take (i := 11) (oi := { dst := some 37, op := Op.indexAddr 23 (Operand.tmp 35) (Operand.tmp 36), type := 0, pos := _, after := #[{ on := 9, ground := Ground.data }, { on := 10, ground := Ground.data }, { on := 7, ground := Ground.guard }], guard := some (7, false) }) (v := undef) rfl (by kernel_rfl) (by kernel_rfl) (by kernel_rfl) (fun _ _ _ h => h) (Or.inr ⟨by rfl, rfl⟩) hB2 ?_
                simp only [Act.put, List.setIfInBounds_toArray, List.set_cons_zero, List.set_cons_succ]
                refine wpAnyH_take (i := 12) (oi := { dst := some 38, op := Op.load 37 (Operand.tmp 37), type := 37, pos := _, after := #[{ on := 11, ground := Ground.data }, { on := 7, ground := Ground.guard }], guard := some (7, false) }) (v := undef) rfl (by kernel_rfl) (by kernel_rfl) (by kernel_rfl) (fun _ _ _ h => h) (Or.inr ⟨by rfl, rfl⟩) hB2 ?_
                simp only [Act.put, List.setIfInBounds_toArray, List.set_cons_zero, List.set_cons_succ]
                refine wpAnyH_take (i := 13) (oi := { dst := some 39, op := Op.call { callee := Callee.value (Operand.func 84), args := #[Operand.tmp 38], argTypes := #[37] }, type := 4, pos := _, after := #[{ on := 12, ground := Ground.data }, { on := 7, ground := Ground.chain }, { on := 7, ground := Ground.guard }], guard := some (7, false) }) (v := undef) rfl (by kernel_rfl) (by kernel_rfl) (by kernel_rfl) (fun _ _ _ h => h) (Or.inr ⟨by rfl, rfl⟩) hB2 ?_
                simp only [Act.put, List.setIfInBounds_toArray, List.set_cons_zero, List.set_cons_succ]
                refine wpAnyH_take (i := 14) (oi := { dst := some 40, op := Op.unOp UnOp.not 4 (Operand.tmp 39), type := 4, pos := _, after := #[{ on := 13, ground := Ground.data }, { on := 7, ground := Ground.guard }], guard := some (7, false) }) (v := undef) rfl (by kernel_rfl) (by kernel_rfl) (by kernel_rfl) (fun _ _ _ h => h) (Or.inr ⟨by rfl, rfl⟩) hB2 ?_
                simp only [Act.put, List.setIfInBounds_toArray, List.set_cons_zero, List.set_cons_succ]
                refine wpAnyH_take (i := 15) (oi := { dst := some 41, op := Op.pick (Operand.tmp 33) (Operand.const (Value.bool true)) (Operand.tmp 40), type := 4, pos := _, after := #[{ on := 7, ground := Ground.data }, { on := 14, ground := Ground.data }], guard := none }) (v := .bool true) rfl (by kernel_rfl) (by kernel_rfl) (by kernel_rfl) (fun _ _ _ h => h) (Or.inl ⟨by rfl, fun w' hS => by (try dsimp only at hS); go_simp⟩) hB2 ?_
                simp only [Act.put, List.setIfInBounds_toArray, List.set_cons_zero, List.set_cons_succ]
                refine wpAnyH_take (i := 16) (oi := { dst := some 42, op := Op.move (Operand.tmp 41), type := 4, pos := _, after := #[{ on := 15, ground := Ground.data }, { on := 13, ground := Ground.chain }], guard := none }) (v := .bool true) rfl (by kernel_rfl) (by kernel_rfl) (by kernel_rfl) (fun _ _ _ h => h) (Or.inl ⟨by rfl, fun w' hS => by (try dsimp only at hS); go_simp⟩) hB2 ?_
                simp only [Act.put, List.setIfInBounds_toArray, List.set_cons_zero, List.set_cons_succ]
                refine wpAnyH_take (i := 17) (oi := { dst := some 43, op := Op.fieldAddr 26 (Operand.tmp 1) 2, type := 0, pos := _, after := #[{ on := 16, ground := Ground.guard }], guard := some (16, false) }) (v := undef) rfl (by kernel_rfl) (by kernel_rfl) (by kernel_rfl) (fun _ _ _ h => h) (Or.inr ⟨by rfl, rfl⟩) hB2 ?_
                simp only [Act.put, List.setIfInBounds_toArray, List.set_cons_zero, List.set_cons_succ]
                refine wpAnyH_take (i := 18) (oi := { dst := some 44, op := Op.load 24 (Operand.tmp 43), type := 24, pos := _, after := #[{ on := 17, ground := Ground.data }, { on := 16, ground := Ground.guard }], guard := some (16, false) }) (v := undef) rfl (by kernel_rfl) (by kernel_rfl) (by kernel_rfl) (fun _ _ _ h => h) (Or.inr ⟨by rfl, rfl⟩) hB2 ?_
                simp only [Act.put, List.setIfInBounds_toArray, List.set_cons_zero, List.set_cons_succ]
                refine wpAnyH_take (i := 19) (oi := { dst := some 45, op := Op.move (Operand.tmp 3), type := 3, pos := _, after := #[{ on := 16, ground := Ground.guard }], guard := some (16, false) }) (v := undef) rfl (by kernel_rfl) (by kernel_rfl) (by kernel_rfl) (fun _ _ _ h => h) (Or.inr ⟨by rfl, rfl⟩) hB2 ?_
                simp only [Act.put, List.setIfInBounds_toArray, List.set_cons_zero, List.set_cons_succ]
                refine wpAnyH_take (i := 20) (oi := { dst := some 46, op := Op.indexAddr 24 (Operand.tmp 44) (Operand.tmp 45), type := 0, pos := _, after := #[{ on := 18, ground := Ground.data }, { on := 19, ground := Ground.data }, { on := 16, ground := Ground.guard }], guard := some (16, false) }) (v := undef) rfl (by kernel_rfl) (by kernel_rfl) (by kernel_rfl) (fun _ _ _ h => h) (Or.inr ⟨by rfl, rfl⟩) hB2 ?_
                simp only [Act.put, List.setIfInBounds_toArray, List.set_cons_zero, List.set_cons_succ]
                refine wpAnyH_take (i := 21) (oi := { dst := some 47, op := Op.load 4 (Operand.tmp 46), type := 4, pos := _, after := #[{ on := 20, ground := Ground.data }, { on := 16, ground := Ground.guard }], guard := some (16, false) }) (v := undef) rfl (by kernel_rfl) (by kernel_rfl) (by kernel_rfl) (fun _ _ _ h => h) (Or.inr ⟨by rfl, rfl⟩) hB2 ?_
                simp only [Act.put, List.setIfInBounds_toArray, List.set_cons_zero, List.set_cons_succ]
                refine wpAnyH_take (i := 22) (oi := { dst := some 48, op := Op.unOp UnOp.not 4 (Operand.tmp 47), type := 4, pos := _, after := #[{ on := 21, ground := Ground.data }, { on := 16, ground := Ground.guard }], guard := some (16, false) }) (v := undef) rfl (by kernel_rfl) (by kernel_rfl) (by kernel_rfl) (fun _ _ _ h => h) (Or.inr ⟨by rfl, rfl⟩) hB2 ?_
                simp only [Act.put, List.setIfInBounds_toArray, List.set_cons_zero, List.set_cons_succ]
                refine wpAnyH_take (i := 23) (oi := { dst := some 49, op := Op.move (Operand.tmp 48), type := 4, pos := _, after := #[{ on := 22, ground := Ground.data }, { on := 16, ground := Ground.chain }, { on := 16, ground := Ground.guard }], guard := some (16, false) }) (v := undef) rfl (by kernel_rfl) (by kernel_rfl) (by kernel_rfl) (fun _ _ _ h => h) (Or.inr ⟨by rfl, rfl⟩) hB2 ?_
                simp only [Act.put, List.setIfInBounds_toArray, List.set_cons_zero, List.set_cons_succ]
                refine wpAnyH_take (i := 24) (oi := { dst := some 50, op := Op.fieldAddr 26 (Operand.tmp 1) 0, type := 0, pos := _, after := #[{ on := 23, ground := Ground.guard }], guard := some (23, true) }) (v := undef) rfl (by kernel_rfl) (by kernel_rfl) (by kernel_rfl) (fun _ _ _ h => h) (Or.inr ⟨by rfl, rfl⟩) hB2 ?_
                simp only [Act.put, List.setIfInBounds_toArray, List.set_cons_zero, List.set_cons_succ]
                refine wpAnyH_take (i := 25) (oi := { dst := some 51, op := Op.load 23 (Operand.tmp 50), type := 23, pos := _, after := #[{ on := 24, ground := Ground.data }, { on := 23, ground := Ground.guard }], guard := some (23, true) }) (v := undef) rfl (by kernel_rfl) (by kernel_rfl) (by kernel_rfl) (fun _ _ _ h => h) (Or.inr ⟨by rfl, rfl⟩) hB2 ?_
                simp only [Act.put, List.setIfInBounds_toArray, List.set_cons_zero, List.set_cons_succ]
                refine wpAnyH_take (i := 26) (oi := { dst := some 52, op := Op.move (Operand.tmp 3), type := 3, pos := _, after := #[{ on := 23, ground := Ground.guard }], guard := some (23, true) }) (v := undef) rfl (by kernel_rfl) (by kernel_rfl) (by kernel_rfl) (fun _ _ _ h => h) (Or.inr ⟨by rfl, rfl⟩) hB2 ?_
                simp only [Act.put, List.setIfInBounds_toArray, List.set_cons_zero, List.set_cons_succ]
                refine wpAnyH_take (i := 27) (oi := { dst := some 53, op := Op.indexAddr 23 (Operand.tmp 51) (Operand.tmp 52), type := 0, pos := _, after := #[{ on := 25, ground := Ground.data }, { on := 26, ground := Ground.data }, { on := 23, ground := Ground.guard }], guard := some (23, true) }) (v := undef) rfl (by kernel_rfl) (by kernel_rfl) (by kernel_rfl) (fun _ _ _ h => h) (Or.inr ⟨by rfl, rfl⟩) hB2 ?_
                simp only [Act.put, List.setIfInBounds_toArray, List.set_cons_zero, List.set_cons_succ]
                refine wpAnyH_take (i := 28) (oi := { dst := some 54, op := Op.fieldAddr 37 (Operand.tmp 53) 0, type := 0, pos := _, after := #[{ on := 27, ground := Ground.data }, { on := 23, ground := Ground.guard }], guard := some (23, true) }) (v := undef) rfl (by kernel_rfl) (by kernel_rfl) (by kernel_rfl) (fun _ _ _ h => h) (Or.inr ⟨by rfl, rfl⟩) hB2 ?_
                simp only [Act.put, List.setIfInBounds_toArray, List.set_cons_zero, List.set_cons_succ]
                refine wpAnyH_take (i := 29) (oi := { dst := some 55, op := Op.load 27 (Operand.tmp 54), type := 27, pos := _, after := #[{ on := 28, ground := Ground.data }, { on := 23, ground := Ground.guard }], guard := some (23, true) }) (v := undef) rfl (by kernel_rfl) (by kernel_rfl) (by kernel_rfl) (fun _ _ _ h => h) (Or.inr ⟨by rfl, rfl⟩) hB2 ?_
                simp only [Act.put, List.setIfInBounds_toArray, List.set_cons_zero, List.set_cons_succ]
                refine wpAnyH_take (i := 30) (oi := { dst := some 56, op := Op.fieldAddr 26 (Operand.tmp 1) 1, type := 0, pos := _, after := #[{ on := 23, ground := Ground.guard }], guard := some (23, true) }) (v := undef) rfl (by kernel_rfl) (by kernel_rfl) (by kernel_rfl) (fun _ _ _ h => h) (Or.inr ⟨by rfl, rfl⟩) hB2 ?_
                simp only [Act.put, List.setIfInBounds_toArray, List.set_cons_zero, List.set_cons_succ]
                refine wpAnyH_take (i := 31) (oi := { dst := some 57, op := Op.load 23 (Operand.tmp 56), type := 23, pos := _, after := #[{ on := 30, ground := Ground.data }, { on := 23, ground := Ground.guard }], guard := some (23, true) }) (v := undef) rfl (by kernel_rfl) (by kernel_rfl) (by kernel_rfl) (fun _ _ _ h => h) (Or.inr ⟨by rfl, rfl⟩) hB2 ?_
                simp only [Act.put, List.setIfInBounds_toArray, List.set_cons_zero, List.set_cons_succ]
                refine wpAnyH_take (i := 32) (oi := { dst := some 58, op := Op.move (Operand.tmp 3), type := 3, pos := _, after := #[{ on := 23, ground := Ground.guard }], guard := some (23, true) }) (v := undef) rfl (by kernel_rfl) (by kernel_rfl) (by kernel_rfl) (fun _ _ _ h => h) (Or.inr ⟨by rfl, rfl⟩) hB2 ?_
                simp only [Act.put, List.setIfInBounds_toArray, List.set_cons_zero, List.set_cons_succ]
                refine wpAnyH_take (i := 33) (oi := { dst := some 59, op := Op.indexAddr 23 (Operand.tmp 57) (Operand.tmp 58), type := 0, pos := _, after := #[{ on := 31, ground := Ground.data }, { on := 32, ground := Ground.data }, { on := 23, ground := Ground.guard }], guard := some (23, true) }) (v := undef) rfl (by kernel_rfl) (by kernel_rfl) (by kernel_rfl) (fun _ _ _ h => h) (Or.inr ⟨by rfl, rfl⟩) hB2 ?_
                simp only [Act.put, List.setIfInBounds_toArray, List.set_cons_zero, List.set_cons_succ]
                refine wpAnyH_take (i := 34) (oi := { dst := some 60, op := Op.fieldAddr 37 (Operand.tmp 59) 0, type := 0, pos := _, after := #[{ on := 33, ground := Ground.data }, { on := 23, ground := Ground.guard }], guard := some (23, true) }) (v := undef) rfl (by kernel_rfl) (by kernel_rfl) (by kernel_rfl) (fun _ _ _ h => h) (Or.inr ⟨by rfl, rfl⟩) hB2 ?_
                simp only [Act.put, List.setIfInBounds_toArray, List.set_cons_zero, List.set_cons_succ]
                refine wpAnyH_take (i := 35) (oi := { dst := some 61, op := Op.load 27 (Operand.tmp 60), type := 27, pos := _, after := #[{ on := 34, ground := Ground.data }, { on := 23, ground := Ground.guard }], guard := some (23, true) }) (v := undef) rfl (by kernel_rfl) (by kernel_rfl) (by kernel_rfl) (fun _ _ _ h => h) (Or.inr ⟨by rfl, rfl⟩) hB2 ?_
                simp only [Act.put, List.setIfInBounds_toArray, List.set_cons_zero, List.set_cons_succ]
                refine wpAnyH_take (i := 36) (oi := { dst := some 62, op := Op.call { callee := Callee.value (Operand.func 85), args := #[Operand.tmp 55, Operand.tmp 61], argTypes := #[27, 27] }, type := 4, pos := _, after := #[{ on := 29, ground := Ground.data }, { on := 35, ground := Ground.data }, { on := 23, ground := Ground.chain }, { on := 23, ground := Ground.guard }], guard := some (23, true) }) (v := undef) rfl (by kernel_rfl) (by kernel_rfl) (by kernel_rfl) (fun _ _ _ h => h) (Or.inr ⟨by rfl, rfl⟩) hB2 ?_
                simp only [Act.put, List.setIfInBounds_toArray, List.set_cons_zero, List.set_cons_succ]
                refine wpAnyH_take (i := 37) (oi := { dst := some 63, op := Op.unOp UnOp.not 4 (Operand.tmp 62), type := 4, pos := _, after := #[{ on := 36, ground := Ground.data }, { on := 23, ground := Ground.guard }], guard := some (23, true) }) (v := undef) rfl (by kernel_rfl) (by kernel_rfl) (by kernel_rfl) (fun _ _ _ h => h) (Or.inr ⟨by rfl, rfl⟩) hB2 ?_
                simp only [Act.put, List.setIfInBounds_toArray, List.set_cons_zero, List.set_cons_succ]
                refine wpAnyH_take (i := 38) (oi := { dst := some 64, op := Op.pick (Operand.tmp 49) (Operand.tmp 63) (Operand.const (Value.bool false)), type := 4, pos := _, after := #[{ on := 23, ground := Ground.data }, { on := 37, ground := Ground.data }, { on := 16, ground := Ground.guard }], guard := some (16, false) }) (v := undef) rfl (by kernel_rfl) (by kernel_rfl) (by kernel_rfl) (fun _ _ _ h => h) (Or.inr ⟨by rfl, rfl⟩) hB2 ?_
                simp only [Act.put, List.setIfInBounds_toArray, List.set_cons_zero, List.set_cons_succ]
                refine wpAnyH_take (i := 39) (oi := { dst := some 65, op := Op.pick (Operand.tmp 42) (Operand.const (Value.bool true)) (Operand.tmp 64), type := 4, pos := _, after := #[{ on := 16, ground := Ground.data }, { on := 38, ground := Ground.data }], guard := none }) (v := .bool true) rfl (by kernel_rfl) (by kernel_rfl) (by kernel_rfl) (fun _ _ _ h => h) (Or.inl ⟨by rfl, fun w' hS => by (try dsimp only at hS); go_simp⟩) hB2 ?_
                simp only [Act.put, List.setIfInBounds_toArray, List.set_cons_zero, List.set_cons_succ]
                refine wpAnyH_done (by kernel_rfl) ?_ _
                refine NoPanic.normal ?_
                clear R0 R1 R2 R3 R4 R5
                go_wp2
                all_goals go_ret
                all_goals exact ⟨false, rfl, ⟨fun h => absurd h (by decide), fun g => absurd g BAD.out⟩, HB.out _ (by assumption)⟩
          · go_wp2
            go_ret
            obtain rfl : k = 12 := by omega
            exact ⟨true, rfl, ⟨fun _ => ⟨rfl, rfl, rfl, hok⟩, fun _ => rfl⟩, hb0.trans hb⟩
      · have hd : (((n3 : Nat) : Int) != 12) = true := by simp; omega
        clear s c d
        go_enter Try.func19, Try.ntmps19
        go_wp2
        go_ret
        exact ⟨false, rfl, ⟨fun h => absurd h (by decide), fun g => absurd g.n3 (by assumption)⟩, (Blw.refl _).alloc _⟩
    · have hd : (((n2 : Nat) : Int) != 12) = true := by simp; omega
      clear s c d
      go_enter Try.func19, Try.ntmps19
      go_wp2
      go_ret
      exact ⟨false, rfl, ⟨fun h => absurd h (by decide), fun g => absurd g.n2 (by assumption)⟩, (Blw.refl _).alloc _⟩
  · have hd : (((n1 : Nat) : Int) != 12) = true := by simp; omega
    clear s c d
    go_enter Try.func19, Try.ntmps19
    go_wp2
    go_ret
    exact ⟨false, rfl, ⟨fun h => absurd h (by decide), fun g => absurd g.n1 (by assumption)⟩, (Blw.refl _).alloc _⟩
end Go.Proofs.Ytnbcjdoohmjghaa
