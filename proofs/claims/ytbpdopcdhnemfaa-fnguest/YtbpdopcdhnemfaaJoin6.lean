/- Merged by program, in this order: Go. -/
import Derived.Test.YtbpdopcdhnemfaaJoin5
/- Guests: the program gives one out. -/
namespace Go.Proofs.Ytbpdopcdhnemfaa
open Go.RowKit
set_option linter.unusedSimpArgs false
set_option linter.unusedVariables false
def GoRel (w : World) (D : GD) (c3 : Value) (wx : World) : Prop := ∃ zg z1 z2 : Nat, c3 = .pointer (some ⟨zg, 0, none⟩) ∧ Row wx zg 5 (fun i => if i = 0 then .int .i64 D.at_ else if i = 1 then .int .i64 D.acc else if i = 2 then .slice (some ⟨z1, 0, none⟩) 8 8 else if i = 3 then .slice (some ⟨z2, 0, none⟩) D.nt D.nt else .bool D.d) ∧ Row wx z1 8 (fun _ => .int .i64 0) ∧ Row wx z2 D.nt (fun _ => .int .i64 0) ∧ (w.heap.size ≤ zg ∧ w.heap.size ≤ z1 ∧ w.heap.size ≤ z2 ∧ zg ≠ z1 ∧ zg ≠ z2 ∧ z1 ≠ z2) ∧ Blw w wx
theorem copy_front {Y : Nat → Prop} {w : World} {b n dl dc : Nat} {ad : Addr} {c : Nat} {f : Nat → Int} {g : Nat → Value} (h : IntsAt Y w (some ad) n f) (hn : dl ≤ n) (hr : Row w b dl g) :
    ∃ w', (Builtin.copy_ #[26, 26] 3 #[.slice (some ⟨b, 0, none⟩) dl dc, .slice (some ad) n c]).run Try.prog w = .ok (goInt dl) w' ∧ Row w' b dl (fun i => .int .i64 (f i)) ∧ Mod (fun x => x = b) w w' ∧ w'.heap.size = w.heap.size := by
  obtain ⟨w', h1, h2, h3, h4⟩ := run_copy_fn (P := Try.prog) w 26 26 3 3 b 0 dl dc ad n c dl (fun j => .int .i64 (f j)) dl g Try.underlying26 tinfoI (by show dl = min n dl; omega) (fun j hj => by
    obtain ⟨b', o', e, -, hc⟩ := h.2 j (by omega)
    cases e
    rw [Addr.add_mid]
    exact hc) (fun _ _ => rfl) hr (by omega)
  exact ⟨w', h1, h2.congr (fun i hi => by rw [if_pos ⟨by omega, by omega⟩, Nat.sub_zero]), h3, h4⟩
set_option maxRecDepth 10000 in
set_option maxHeartbeats 6400000 in
theorem giveOut0_any (z : Nat) (D : GD) (w : World) (hg : D.Good) (h : Cells w z 0 32 (hc D)) :
    Calls Try.prog 115 #[.pointer (some ⟨z, 0, none⟩)] w fun e w' => ∃ v : GV, e = .returned (v.val D) ∧ GOwn (fun x => w.heap.size ≤ x ∧ x < w'.heap.size) w' v D ∧ Blw w w' := by
  have four : ∀ {w' : World}, Cells w' z 0 32 (hc D) → w'.cell? ⟨z, 0, none⟩ = some (.int .i64 D.at_) ∧ w'.cell? ⟨z, 1, none⟩ = some (.int .i64 D.acc) ∧ w'.cell? ⟨z, 30, none⟩ = some (.int .i64 (D.nt : Int)) ∧ w'.cell? ⟨z, 31, none⟩ = some (.bool D.d) := fun hh => ⟨(hh 0 (by omega)).1, (hh 1 (by omega)).1, (hh 30 (by omega)).1, (hh 31 (by omega)).1⟩
  have hn20 := hg.nt
  have HNC : Hid (D.nc = 8) := hg.nc
  have HB1 : Hid (Blw w (w.alloc (.cells #[.int .i64 0, .int .i64 0, .slice none 0 0, .slice none 0 0, .bool false] 61))) := (Blw.refl _).alloc _
  have HC : Hid (Cells (w.alloc (.cells #[.int .i64 0, .int .i64 0, .slice none 0 0, .slice none 0 0, .bool false] 61)) z 0 32 (hc D)) := h.blw HB1.out
  have HR0 : Hid (Row (w.alloc (.cells #[.int .i64 0, .int .i64 0, .slice none 0 0, .slice none 0 0, .bool false] 61)) w.heap.size 5 (fun i => if i = 0 then .int .i64 0 else if i = 1 then .int .i64 0 else if i = 2 then .slice none 0 0 else if i = 3 then .slice none 0 0 else .bool false)) := row5 w _ _ _ _ _ 61
  have HSZ : Hid ((w.alloc (.cells #[.int .i64 0, .int .i64 0, .slice none 0 0, .slice none 0 0, .bool false] 61)).heap.size = w.heap.size + 1) := by show _ = _; simp
  clear h hg
  go_enter Try.func115, Try.ntmps115
  go_upto_region 1 with fail
  generalize w.alloc (.cells #[.int .i64 0, .int .i64 0, .slice none 0 0, .slice none 0 0, .bool false] 61) = w1 at *
  go_cut [3] from 3 to 22 (fun c3 wx => GoRel w1 D c3 wx)
  case first =>
    have HBW : Hid (Blw w1 w1.drew) := (Blw.refl _).drew
    refine wp_region_noPanic ?_
    refine wp_region_held_drew (S := fun w' => w'.cell? ⟨z, 0, none⟩ = some (.int .i64 D.at_) ∧ w'.cell? ⟨z, 1, none⟩ = some (.int .i64 D.acc) ∧ w'.cell? ⟨z, 30, none⟩ = some (.int .i64 (D.nt : Int)) ∧ w'.cell? ⟨z, 31, none⟩ = some (.bool D.d)) (by kernel_rfl) (four (HC.out.blw HBW.out)) (fun hB => ?_)
    clear hB
    generalize w1.drew = wd at *
    refine wpAnyH_take (i := 0) (oi := { dst := some 4, op := Op.move (Operand.tmp 0), type := 209, pos := _, after := #[], guard := none }) (v := (.pointer (some ⟨z, 0, none⟩))) rfl (by kernel_rfl) (by kernel_rfl) (by kernel_rfl) (fun _ _ _ h => h) (Or.inl ⟨by rfl, fun w' hS => by (try dsimp only at hS); go_simp⟩) (four (HC.out.blw HBW.out)) ?_
    simp only [Act.put, List.setIfInBounds_toArray, List.set_cons_zero, List.set_cons_succ]
    refine wpAnyH_take (i := 4) (oi := { dst := some 8, op := Op.move (Operand.tmp 0), type := 209, pos := _, after := #[], guard := none }) (v := (.pointer (some ⟨z, 0, none⟩))) rfl (by kernel_rfl) (by kernel_rfl) (by kernel_rfl) (fun _ _ _ h => h) (Or.inl ⟨by rfl, fun w' hS => by (try dsimp only at hS); go_simp⟩) (four (HC.out.blw HBW.out)) ?_
    simp only [Act.put, List.setIfInBounds_toArray, List.set_cons_zero, List.set_cons_succ]
    refine wpAnyH_take (i := 9) (oi := { dst := some 13, op := Op.move (Operand.tmp 0), type := 209, pos := _, after := #[], guard := none }) (v := (.pointer (some ⟨z, 0, none⟩))) rfl (by kernel_rfl) (by kernel_rfl) (by kernel_rfl) (fun _ _ _ h => h) (Or.inl ⟨by rfl, fun w' hS => by (try dsimp only at hS); go_simp⟩) (four (HC.out.blw HBW.out)) ?_
    simp only [Act.put, List.setIfInBounds_toArray, List.set_cons_zero, List.set_cons_succ]
    refine wpAnyH_take (i := 14) (oi := { dst := some 18, op := Op.move (Operand.tmp 0), type := 209, pos := _, after := #[], guard := none }) (v := (.pointer (some ⟨z, 0, none⟩))) rfl (by kernel_rfl) (by kernel_rfl) (by kernel_rfl) (fun _ _ _ h => h) (Or.inl ⟨by rfl, fun w' hS => by (try dsimp only at hS); go_simp⟩) (four (HC.out.blw HBW.out)) ?_
    simp only [Act.put, List.setIfInBounds_toArray, List.set_cons_zero, List.set_cons_succ]
    refine wpAnyH_take (i := 1) (oi := { dst := some 5, op := Op.nilCheck (Operand.tmp 4), type := 0, pos := _, after := #[{ on := 0, ground := Ground.data }], guard := none }) (v := (.pointer (some ⟨z, 0, none⟩))) rfl (by kernel_rfl) (by kernel_rfl) (by kernel_rfl) (fun _ _ _ h => h) (Or.inl ⟨by rfl, fun w' hS => by (try dsimp only at hS); go_simp⟩) (four (HC.out.blw HBW.out)) ?_
    simp only [Act.put, List.setIfInBounds_toArray, List.set_cons_zero, List.set_cons_succ]
    refine wpAnyH_take (i := 5) (oi := { dst := some 9, op := Op.nilCheck (Operand.tmp 8), type := 0, pos := _, after := #[{ on := 4, ground := Ground.data }], guard := none }) (v := (.pointer (some ⟨z, 0, none⟩))) rfl (by kernel_rfl) (by kernel_rfl) (by kernel_rfl) (fun _ _ _ h => h) (Or.inl ⟨by rfl, fun w' hS => by (try dsimp only at hS); go_simp⟩) (four (HC.out.blw HBW.out)) ?_
    simp only [Act.put, List.setIfInBounds_toArray, List.set_cons_zero, List.set_cons_succ]
    refine wpAnyH_take (i := 10) (oi := { dst := some 14, op := Op.nilCheck (Operand.tmp 13), type := 0, pos := _, after := #[{ on := 9, ground := Ground.data }], guard := none }) (v := (.pointer (some ⟨z, 0, none⟩))) rfl (by kernel_rfl) (by kernel_rfl) (by kernel_rfl) (fun _ _ _ h => h) (Or.inl ⟨by rfl, fun w' hS => by (try dsimp only at hS); go_simp⟩) (four (HC.out.blw HBW.out)) ?_
    simp only [Act.put, List.setIfInBounds_toArray, List.set_cons_zero, List.set_cons_succ]
    refine wpAnyH_take (i := 15) (oi := { dst := some 19, op := Op.nilCheck (Operand.tmp 18), type := 0, pos := _, after := #[{ on := 14, ground := Ground.data }], guard := none }) (v := (.pointer (some ⟨z, 0, none⟩))) rfl (by kernel_rfl) (by kernel_rfl) (by kernel_rfl) (fun _ _ _ h => h) (Or.inl ⟨by rfl, fun w' hS => by (try dsimp only at hS); go_simp⟩) (four (HC.out.blw HBW.out)) ?_
    simp only [Act.put, List.setIfInBounds_toArray, List.set_cons_zero, List.set_cons_succ]
    refine wpAnyH_take (i := 2) (oi := { dst := some 6, op := Op.fieldAddr 148 (Operand.tmp 5) 0, type := 0, pos := _, after := #[{ on := 1, ground := Ground.data }], guard := none }) (v := (.pointer (some ⟨z, 0, none⟩))) rfl (by kernel_rfl) (by kernel_rfl) (by kernel_rfl) (fun _ _ _ h => h) (Or.inl ⟨by rfl, fun w' hS => by (try dsimp only at hS); go_simp⟩) (four (HC.out.blw HBW.out)) ?_
    simp only [Act.put, List.setIfInBounds_toArray, List.set_cons_zero, List.set_cons_succ]
    refine wpAnyH_take (i := 6) (oi := { dst := some 10, op := Op.fieldAddr 148 (Operand.tmp 9) 1, type := 0, pos := _, after := #[{ on := 5, ground := Ground.data }], guard := none }) (v := (.pointer (some ⟨z, 1, none⟩))) rfl (by kernel_rfl) (by kernel_rfl) (by kernel_rfl) (fun _ _ _ h => h) (Or.inl ⟨by rfl, fun w' hS => by (try dsimp only at hS); go_simp⟩) (four (HC.out.blw HBW.out)) ?_
    simp only [Act.put, List.setIfInBounds_toArray, List.set_cons_zero, List.set_cons_succ]
    refine wpAnyH_take (i := 11) (oi := { dst := some 15, op := Op.fieldAddr 148 (Operand.tmp 14) 4, type := 0, pos := _, after := #[{ on := 10, ground := Ground.data }], guard := none }) (v := (.pointer (some ⟨z, 30, none⟩))) rfl (by kernel_rfl) (by kernel_rfl) (by kernel_rfl) (fun _ _ _ h => h) (Or.inl ⟨by rfl, fun w' hS => by (try dsimp only at hS); go_simp⟩) (four (HC.out.blw HBW.out)) ?_
    simp only [Act.put, List.setIfInBounds_toArray, List.set_cons_zero, List.set_cons_succ]
    refine wpAnyH_take (i := 16) (oi := { dst := some 20, op := Op.fieldAddr 148 (Operand.tmp 19) 5, type := 0, pos := _, after := #[{ on := 15, ground := Ground.data }], guard := none }) (v := (.pointer (some ⟨z, 31, none⟩))) rfl (by kernel_rfl) (by kernel_rfl) (by kernel_rfl) (fun _ _ _ h => h) (Or.inl ⟨by rfl, fun w' hS => by (try dsimp only at hS); go_simp⟩) (four (HC.out.blw HBW.out)) ?_
    simp only [Act.put, List.setIfInBounds_toArray, List.set_cons_zero, List.set_cons_succ]
    refine wpAnyH_take (i := 3) (oi := { dst := some 7, op := Op.load 3 (Operand.tmp 6), type := 3, pos := _, after := #[{ on := 2, ground := Ground.data }], guard := none }) (v := (.int .i64 D.at_)) rfl (by kernel_rfl) (by kernel_rfl) (by kernel_rfl) (fun _ _ _ h => h) (Or.inl ⟨by rfl, fun w' hS => by (try dsimp only at hS); go_simp⟩) (four (HC.out.blw HBW.out)) ?_
    simp only [Act.put, List.setIfInBounds_toArray, List.set_cons_zero, List.set_cons_succ]
    refine wpAnyH_take (i := 7) (oi := { dst := some 11, op := Op.load 3 (Operand.tmp 10), type := 3, pos := _, after := #[{ on := 6, ground := Ground.data }], guard := none }) (v := (.int .i64 D.acc)) rfl (by kernel_rfl) (by kernel_rfl) (by kernel_rfl) (fun _ _ _ h => h) (Or.inl ⟨by rfl, fun w' hS => by (try dsimp only at hS); go_simp⟩) (four (HC.out.blw HBW.out)) ?_
    simp only [Act.put, List.setIfInBounds_toArray, List.set_cons_zero, List.set_cons_succ]
    refine wpAnyH_take (i := 12) (oi := { dst := some 16, op := Op.load 3 (Operand.tmp 15), type := 3, pos := _, after := #[{ on := 11, ground := Ground.data }], guard := none }) (v := (.int .i64 (D.nt : Int))) rfl (by kernel_rfl) (by kernel_rfl) (by kernel_rfl) (fun _ _ _ h => h) (Or.inl ⟨by rfl, fun w' hS => by (try dsimp only at hS); go_simp⟩) (four (HC.out.blw HBW.out)) ?_
    simp only [Act.put, List.setIfInBounds_toArray, List.set_cons_zero, List.set_cons_succ]
    refine wpAnyH_take (i := 17) (oi := { dst := some 21, op := Op.load 4 (Operand.tmp 20), type := 4, pos := _, after := #[{ on := 16, ground := Ground.data }], guard := none }) (v := (.bool D.d)) rfl (by kernel_rfl) (by kernel_rfl) (by kernel_rfl) (fun _ _ _ h => h) (Or.inl ⟨by rfl, fun w' hS => by (try dsimp only at hS); go_simp⟩) (four (HC.out.blw HBW.out)) ?_
    simp only [Act.put, List.setIfInBounds_toArray, List.set_cons_zero, List.set_cons_succ]
    refine wpAnyH_ready (rs := [8, 13, 19]) (by kernel_rfl) (by simp) ?_
    refine AllReadyH.cons (o := { dst := some 12, op := Op.makeSlice 26 (Operand.const (Value.int IntKind.i64 8)) (Operand.const (Value.int IntKind.i64 8)), type := 26, pos := _, after := #[], guard := none }) rfl (fun K hK => ?_) (AllReadyH.cons (o := { dst := some 17, op := Op.makeSlice 26 (Operand.tmp 16) (Operand.tmp 16), type := 26, pos := _, after := #[{ on := 12, ground := Ground.data }, { on := 12, ground := Ground.data }], guard := none }) rfl (fun K hK => ?_) (AllReadyH.cons (o := { dst := some 3, op := Op.alloc 61, type := 0, pos := _, after := #[], guard := none }) rfl (fun K hK => ?_) AllReadyH.nil))
    · have hmk : (Instr.makeSlice 26 (.int .i64 8) (.int .i64 8)).run Try.prog wd = .ok (.slice (some ⟨wd.heap.size, 0, none⟩) 8 8) (wd.alloc (.cells (madeCells #[.int .i64 0] 8) 3)) := mkInts 8 (by omega) wd
      go_simp
      clear hmk
      have hb : Blw wd (wd.alloc (.cells (madeCells #[.int .i64 0] 8) 3)) := (Blw.refl _).alloc _
      have R8 : Hid (Row (wd.alloc (.cells (madeCells #[.int .i64 0] 8) 3)) wd.heap.size 8 (fun _ => .int .i64 0)) := Row.made wd (.int .i64 0) 8 3
      have HZ8 : Hid (w1.heap.size ≤ wd.heap.size ∧ wd.heap.size < (wd.alloc (.cells (madeCells #[.int .i64 0] 8) 3)).heap.size) := ⟨HBW.out.size, by simp⟩
      generalize wd.alloc (.cells (madeCells #[.int .i64 0] 8) 3) = x1 at *
      replace HBW : Hid (Blw w1 x1) := HBW.out.trans hb
      have HY0 : Hid (wd.heap.size ≤ x1.heap.size) := hb.size
      clear hb
      refine hK.out _ _ (four (HC.out.blw HBW.out)) (fun hB => ?_)
      clear hK K hB
      try simp only [Act.put, List.setIfInBounds_toArray, List.set_cons_zero, List.set_cons_succ]
      refine wpAnyH_ready (rs := [13, 19]) (by kernel_rfl) (by simp) ?_
      refine AllReadyH.cons (o := { dst := some 17, op := Op.makeSlice 26 (Operand.tmp 16) (Operand.tmp 16), type := 26, pos := _, after := #[{ on := 12, ground := Ground.data }, { on := 12, ground := Ground.data }], guard := none }) rfl (fun K hK => ?_) (AllReadyH.cons (o := { dst := some 3, op := Op.alloc 61, type := 0, pos := _, after := #[], guard := none }) rfl (fun K hK => ?_) AllReadyH.nil)
      · have hmk := mkInts D.nt (by omega) x1
        go_simp
        clear hmk
        have hb : Blw x1 (x1.alloc (.cells (madeCells #[.int .i64 0] D.nt) 3)) := (Blw.refl _).alloc _
        have RN : Hid (Row (x1.alloc (.cells (madeCells #[.int .i64 0] D.nt) 3)) x1.heap.size D.nt (fun _ => .int .i64 0)) := Row.made x1 (.int .i64 0) D.nt 3
        have HZ13 : Hid (w1.heap.size ≤ x1.heap.size ∧ x1.heap.size < (x1.alloc (.cells (madeCells #[.int .i64 0] D.nt) 3)).heap.size) := ⟨HBW.out.size, by simp⟩
        generalize x1.alloc (.cells (madeCells #[.int .i64 0] D.nt) 3) = x2 at *
        replace HBW : Hid (Blw w1 x2) := HBW.out.trans hb
        replace R8 : Hid (Row x2 wd.heap.size 8 (fun _ => .int .i64 0)) := R8.out.blw hb
        have HY1 : Hid (x1.heap.size ≤ x2.heap.size) := hb.size
        clear hb
        refine hK.out _ _ (four (HC.out.blw HBW.out)) (fun hB => ?_)
        clear hK K hB
        try simp only [Act.put, List.setIfInBounds_toArray, List.set_cons_zero, List.set_cons_succ]
        refine wpAnyH_take (i := 18) (oi := { dst := some 22, op := Op.build 61 #[(0, Operand.tmp 7), (1, Operand.tmp 11), (2, Operand.tmp 12), (3, Operand.tmp 17), (4, Operand.tmp 21)], type := 61, pos := _, after := #[{ on := 3, ground := Ground.data }, { on := 7, ground := Ground.data }, { on := 8, ground := Ground.data }, { on := 13, ground := Ground.data }, { on := 17, ground := Ground.data }], guard := none }) (v := (.agg #[.int .i64 D.at_, .int .i64 D.acc, .slice (some ⟨wd.heap.size, 0, none⟩) 8 8, .slice (some ⟨x1.heap.size, 0, none⟩) D.nt D.nt, .bool D.d])) rfl (by kernel_rfl) (by kernel_rfl) (by kernel_rfl) (fun _ _ _ h => h) (Or.inl ⟨by rfl, fun w' hS => by (try dsimp only at hS); go_simp⟩) (four (HC.out.blw HBW.out)) ?_
        simp only [Act.put, List.setIfInBounds_toArray, List.set_cons_zero, List.set_cons_succ]
        refine wpAnyH_ready (rs := [19]) (by kernel_rfl) (by simp) ?_
        refine AllReadyH.cons (o := { dst := some 3, op := Op.alloc 61, type := 0, pos := _, after := #[], guard := none }) rfl (fun K hK => ?_) AllReadyH.nil
        go_simp
        have hb : Blw x2 (x2.alloc (.cells #[.int .i64 0, .int .i64 0, .slice none 0 0, .slice none 0 0, .bool false] 61)) := (Blw.refl _).alloc _
        have RG : Hid (Row (x2.alloc (.cells #[.int .i64 0, .int .i64 0, .slice none 0 0, .slice none 0 0, .bool false] 61)) x2.heap.size 5 (fun i => if i = 0 then .int .i64 0 else if i = 1 then .int .i64 0 else if i = 2 then .slice none 0 0 else if i = 3 then .slice none 0 0 else .bool false)) := row5 x2 (.int .i64 0) (.int .i64 0) (.slice none 0 0) (.slice none 0 0) (.bool false) 61
        have HZ19 : Hid (w1.heap.size ≤ x2.heap.size ∧ x2.heap.size < (x2.alloc (.cells #[.int .i64 0, .int .i64 0, .slice none 0 0, .slice none 0 0, .bool false] 61)).heap.size) := ⟨HBW.out.size, by simp⟩
        generalize x2.alloc (.cells #[.int .i64 0, .int .i64 0, .slice none 0 0, .slice none 0 0, .bool false] 61) = x3 at *
        replace HBW : Hid (Blw w1 x3) := HBW.out.trans hb
        replace R8 : Hid (Row x3 wd.heap.size 8 (fun _ => .int .i64 0)) := R8.out.blw hb
        replace RN : Hid (Row x3 x1.heap.size D.nt (fun _ => .int .i64 0)) := RN.out.blw hb
        have HY2 : Hid (x2.heap.size ≤ x3.heap.size) := hb.size
        clear hb
        refine hK.out _ _ (four (HC.out.blw HBW.out)) (fun hB => ?_)
        clear hK K hB
        try simp only [Act.put, List.setIfInBounds_toArray, List.set_cons_zero, List.set_cons_succ]
        refine wpAnyH_ready (rs := [20]) (by kernel_rfl) (by simp) ?_
        refine AllReadyH.cons (o := { dst := none, op := Op.store 61 (Operand.tmp 3) (Operand.tmp 22), type := 0, pos := _, after := #[{ on := 19, ground := Ground.data }, { on := 18, ground := Ground.data }, { on := 0, ground := Ground.phase }, { on := 1, ground := Ground.phase }, { on := 2, ground := Ground.phase }, { on := 3, ground := Ground.phase }, { on := 4, ground := Ground.phase }, { on := 5, ground := Ground.phase }, { on := 6, ground := Ground.phase }, { on := 7, ground := Ground.phase }, { on := 8, ground := Ground.phase }, { on := 9, ground := Ground.phase }, { on := 10, ground := Ground.phase }, { on := 11, ground := Ground.phase }, { on := 12, ground := Ground.phase }, { on := 13, ground := Ground.phase }, { on := 14, ground := Ground.phase }, { on := 15, ground := Ground.phase }, { on := 16, ground := Ground.phase }, { on := 17, ground := Ground.phase }, { on := 18, ground := Ground.phase }, { on := 19, ground := Ground.phase }], guard := none }) rfl (fun K hK => ?_) AllReadyH.nil
        obtain ⟨t0, t1, t2, t3, t4⟩ := get5 RG.out
        have f0 := RG.out.frozen 0
        have f1 := RG.out.frozen 1
        have f2 := RG.out.frozen 2
        have f3 := RG.out.frozen 3
        have f4 := RG.out.frozen 4
        have o8 := HZ8.out
        have o13 := HZ13.out
        have o19 := HZ19.out
        have y0 := HY0.out
        have y1 := HY1.out
        have y2 := HY2.out
        have m1 := set5_modG x3 x2.heap.size (.int .i64 D.at_) (.int .i64 D.acc) (.slice (some ⟨wd.heap.size, 0, none⟩) 8 8) (.slice (some ⟨x1.heap.size, 0, none⟩) D.nt D.nt) (.bool D.d) (X := fun x => x = x2.heap.size) rfl
        have FIN : Hid (GoRel w1 D (.pointer (some ⟨x2.heap.size, 0, none⟩)) (((((x3.setCell ⟨x2.heap.size, 0, none⟩ (.int .i64 D.at_)).setCell ⟨x2.heap.size, 1, none⟩ (.int .i64 D.acc)).setCell ⟨x2.heap.size, 2, none⟩ (.slice (some ⟨wd.heap.size, 0, none⟩) 8 8)).setCell ⟨x2.heap.size, 3, none⟩ (.slice (some ⟨x1.heap.size, 0, none⟩) D.nt D.nt)).setCell ⟨x2.heap.size, 4, none⟩ (.bool D.d))) := ⟨x2.heap.size, wd.heap.size, x1.heap.size, rfl, set5_all RG.out _ _ _ _ _, R8.out.mod m1 (by omega), RN.out.mod m1 (by omega), ⟨by omega, by omega, by omega, by omega, by omega, by omega⟩, Mod.blw HBW.out m1 (fun i hi => by omega)⟩
        replace HBW : Hid (Blw w1 (((((x3.setCell ⟨x2.heap.size, 0, none⟩ (.int .i64 D.at_)).setCell ⟨x2.heap.size, 1, none⟩ (.int .i64 D.acc)).setCell ⟨x2.heap.size, 2, none⟩ (.slice (some ⟨wd.heap.size, 0, none⟩) 8 8)).setCell ⟨x2.heap.size, 3, none⟩ (.slice (some ⟨x1.heap.size, 0, none⟩) D.nt D.nt)).setCell ⟨x2.heap.size, 4, none⟩ (.bool D.d))) := Mod.blw HBW.out m1 (fun i hi => by omega)
        clear m1 o8 o13 o19 y0 y1 y2 R8 RN RG
        go_simp
        refine hK.out _ _ (four (HC.out.blw HBW.out)) (fun hB => ?_)
        clear hK K hB
        try simp only [Act.put, List.setIfInBounds_toArray, List.set_cons_zero, List.set_cons_succ]
        clear t0 t1 t2 t3 t4 f0 f1 f2 f3 f4
        refine wpAnyH_done (by kernel_rfl) ?_ _
        refine NoPanic.normal ?_
        go_wp2_with fail
        go_meet
        exact FIN.out
      · go_simp
        have hb : Blw x1 (x1.alloc (.cells #[.int .i64 0, .int .i64 0, .slice none 0 0, .slice none 0 0, .bool false] 61)) := (Blw.refl _).alloc _
        have RG : Hid (Row (x1.alloc (.cells #[.int .i64 0, .int .i64 0, .slice none 0 0, .slice none 0 0, .bool false] 61)) x1.heap.size 5 (fun i => if i = 0 then .int .i64 0 else if i = 1 then .int .i64 0 else if i = 2 then .slice none 0 0 else if i = 3 then .slice none 0 0 else .bool false)) := row5 x1 (.int .i64 0) (.int .i64 0) (.slice none 0 0) (.slice none 0 0) (.bool false) 61
        have HZ19 : Hid (w1.heap.size ≤ x1.heap.size ∧ x1.heap.size < (x1.alloc (.cells #[.int .i64 0, .int .i64 0, .slice none 0 0, .slice none 0 0, .bool false] 61)).heap.size) := ⟨HBW.out.size, by simp⟩
        generalize x1.alloc (.cells #[.int .i64 0, .int .i64 0, .slice none 0 0, .slice none 0 0, .bool false] 61) = x2 at *
        replace HBW : Hid (Blw w1 x2) := HBW.out.trans hb
        replace R8 : Hid (Row x2 wd.heap.size 8 (fun _ => .int .i64 0)) := R8.out.blw hb
        have HY1 : Hid (x1.heap.size ≤ x2.heap.size) := hb.size
        clear hb
        refine hK.out _ _ (four (HC.out.blw HBW.out)) (fun hB => ?_)
        clear hK K hB
        try simp only [Act.put, List.setIfInBounds_toArray, List.set_cons_zero, List.set_cons_succ]
        refine wpAnyH_ready (rs := [13]) (by kernel_rfl) (by simp) ?_
        refine AllReadyH.cons (o := { dst := some 17, op := Op.makeSlice 26 (Operand.tmp 16) (Operand.tmp 16), type := 26, pos := _, after := #[{ on := 12, ground := Ground.data }, { on := 12, ground := Ground.data }], guard := none }) rfl (fun K hK => ?_) AllReadyH.nil
        have hmk := mkInts D.nt (by omega) x2
        go_simp
        clear hmk
        have hb : Blw x2 (x2.alloc (.cells (madeCells #[.int .i64 0] D.nt) 3)) := (Blw.refl _).alloc _
        have RN : Hid (Row (x2.alloc (.cells (madeCells #[.int .i64 0] D.nt) 3)) x2.heap.size D.nt (fun _ => .int .i64 0)) := Row.made x2 (.int .i64 0) D.nt 3
        have HZ13 : Hid (w1.heap.size ≤ x2.heap.size ∧ x2.heap.size < (x2.alloc (.cells (madeCells #[.int .i64 0] D.nt) 3)).heap.size) := ⟨HBW.out.size, by simp⟩
        generalize x2.alloc (.cells (madeCells #[.int .i64 0] D.nt) 3) = x3 at *
        replace HBW : Hid (Blw w1 x3) := HBW.out.trans hb
        replace R8 : Hid (Row x3 wd.heap.size 8 (fun _ => .int .i64 0)) := R8.out.blw hb
        replace RG : Hid (Row x3 x1.heap.size 5 (fun i => if i = 0 then .int .i64 0 else if i = 1 then .int .i64 0 else if i = 2 then .slice none 0 0 else if i = 3 then .slice none 0 0 else .bool false)) := RG.out.blw hb
        have HY2 : Hid (x2.heap.size ≤ x3.heap.size) := hb.size
        clear hb
        refine hK.out _ _ (four (HC.out.blw HBW.out)) (fun hB => ?_)
        clear hK K hB
        try simp only [Act.put, List.setIfInBounds_toArray, List.set_cons_zero, List.set_cons_succ]
        refine wpAnyH_take (i := 18) (oi := { dst := some 22, op := Op.build 61 #[(0, Operand.tmp 7), (1, Operand.tmp 11), (2, Operand.tmp 12), (3, Operand.tmp 17), (4, Operand.tmp 21)], type := 61, pos := _, after := #[{ on := 3, ground := Ground.data }, { on := 7, ground := Ground.data }, { on := 8, ground := Ground.data }, { on := 13, ground := Ground.data }, { on := 17, ground := Ground.data }], guard := none }) (v := (.agg #[.int .i64 D.at_, .int .i64 D.acc, .slice (some ⟨wd.heap.size, 0, none⟩) 8 8, .slice (some ⟨x2.heap.size, 0, none⟩) D.nt D.nt, .bool D.d])) rfl (by kernel_rfl) (by kernel_rfl) (by kernel_rfl) (fun _ _ _ h => h) (Or.inl ⟨by rfl, fun w' hS => by (try dsimp only at hS); go_simp⟩) (four (HC.out.blw HBW.out)) ?_
        simp only [Act.put, List.setIfInBounds_toArray, List.set_cons_zero, List.set_cons_succ]
        refine wpAnyH_ready (rs := [20]) (by kernel_rfl) (by simp) ?_
        refine AllReadyH.cons (o := { dst := none, op := Op.store 61 (Operand.tmp 3) (Operand.tmp 22), type := 0, pos := _, after := #[{ on := 19, ground := Ground.data }, { on := 18, ground := Ground.data }, { on := 0, ground := Ground.phase }, { on := 1, ground := Ground.phase }, { on := 2, ground := Ground.phase }, { on := 3, ground := Ground.phase }, { on := 4, ground := Ground.phase }, { on := 5, ground := Ground.phase }, { on := 6, ground := Ground.phase }, { on := 7, ground := Ground.phase }, { on := 8, ground := Ground.phase }, { on := 9, ground := Ground.phase }, { on := 10, ground := Ground.phase }, { on := 11, ground := Ground.phase }, { on := 12, ground := Ground.phase }, { on := 13, ground := Ground.phase }, { on := 14, ground := Ground.phase }, { on := 15, ground := Ground.phase }, { on := 16, ground := Ground.phase }, { on := 17, ground := Ground.phase }, { on := 18, ground := Ground.phase }, { on := 19, ground := Ground.phase }], guard := none }) rfl (fun K hK => ?_) AllReadyH.nil
        obtain ⟨t0, t1, t2, t3, t4⟩ := get5 RG.out
        have f0 := RG.out.frozen 0
        have f1 := RG.out.frozen 1
        have f2 := RG.out.frozen 2
        have f3 := RG.out.frozen 3
        have f4 := RG.out.frozen 4
        have o8 := HZ8.out
        have o13 := HZ13.out
        have o19 := HZ19.out
        have y0 := HY0.out
        have y1 := HY1.out
        have y2 := HY2.out
        have m1 := set5_modG x3 x1.heap.size (.int .i64 D.at_) (.int .i64 D.acc) (.slice (some ⟨wd.heap.size, 0, none⟩) 8 8) (.slice (some ⟨x2.heap.size, 0, none⟩) D.nt D.nt) (.bool D.d) (X := fun x => x = x1.heap.size) rfl
        have FIN : Hid (GoRel w1 D (.pointer (some ⟨x1.heap.size, 0, none⟩)) (((((x3.setCell ⟨x1.heap.size, 0, none⟩ (.int .i64 D.at_)).setCell ⟨x1.heap.size, 1, none⟩ (.int .i64 D.acc)).setCell ⟨x1.heap.size, 2, none⟩ (.slice (some ⟨wd.heap.size, 0, none⟩) 8 8)).setCell ⟨x1.heap.size, 3, none⟩ (.slice (some ⟨x2.heap.size, 0, none⟩) D.nt D.nt)).setCell ⟨x1.heap.size, 4, none⟩ (.bool D.d))) := ⟨x1.heap.size, wd.heap.size, x2.heap.size, rfl, set5_all RG.out _ _ _ _ _, R8.out.mod m1 (by omega), RN.out.mod m1 (by omega), ⟨by omega, by omega, by omega, by omega, by omega, by omega⟩, Mod.blw HBW.out m1 (fun i hi => by omega)⟩
        replace HBW : Hid (Blw w1 (((((x3.setCell ⟨x1.heap.size, 0, none⟩ (.int .i64 D.at_)).setCell ⟨x1.heap.size, 1, none⟩ (.int .i64 D.acc)).setCell ⟨x1.heap.size, 2, none⟩ (.slice (some ⟨wd.heap.size, 0, none⟩) 8 8)).setCell ⟨x1.heap.size, 3, none⟩ (.slice (some ⟨x2.heap.size, 0, none⟩) D.nt D.nt)).setCell ⟨x1.heap.size, 4, none⟩ (.bool D.d))) := Mod.blw HBW.out m1 (fun i hi => by omega)
        clear m1 o8 o13 o19 y0 y1 y2 R8 RN RG
        go_simp
        refine hK.out _ _ (four (HC.out.blw HBW.out)) (fun hB => ?_)
        clear hK K hB
        try simp only [Act.put, List.setIfInBounds_toArray, List.set_cons_zero, List.set_cons_succ]
        clear t0 t1 t2 t3 t4 f0 f1 f2 f3 f4
        refine wpAnyH_done (by kernel_rfl) ?_ _
        refine NoPanic.normal ?_
        go_wp2_with fail
        go_meet
        exact FIN.out
    · have hmk := mkInts D.nt (by omega) wd
      go_simp
      clear hmk
      have hb : Blw wd (wd.alloc (.cells (madeCells #[.int .i64 0] D.nt) 3)) := (Blw.refl _).alloc _
      have RN : Hid (Row (wd.alloc (.cells (madeCells #[.int .i64 0] D.nt) 3)) wd.heap.size D.nt (fun _ => .int .i64 0)) := Row.made wd (.int .i64 0) D.nt 3
      have HZ13 : Hid (w1.heap.size ≤ wd.heap.size ∧ wd.heap.size < (wd.alloc (.cells (madeCells #[.int .i64 0] D.nt) 3)).heap.size) := ⟨HBW.out.size, by simp⟩
      generalize wd.alloc (.cells (madeCells #[.int .i64 0] D.nt) 3) = x1 at *
      replace HBW : Hid (Blw w1 x1) := HBW.out.trans hb
      have HY0 : Hid (wd.heap.size ≤ x1.heap.size) := hb.size
      clear hb
      refine hK.out _ _ (four (HC.out.blw HBW.out)) (fun hB => ?_)
      clear hK K hB
      try simp only [Act.put, List.setIfInBounds_toArray, List.set_cons_zero, List.set_cons_succ]
      refine wpAnyH_ready (rs := [8, 19]) (by kernel_rfl) (by simp) ?_
      refine AllReadyH.cons (o := { dst := some 12, op := Op.makeSlice 26 (Operand.const (Value.int IntKind.i64 8)) (Operand.const (Value.int IntKind.i64 8)), type := 26, pos := _, after := #[], guard := none }) rfl (fun K hK => ?_) (AllReadyH.cons (o := { dst := some 3, op := Op.alloc 61, type := 0, pos := _, after := #[], guard := none }) rfl (fun K hK => ?_) AllReadyH.nil)
      · have hmk : (Instr.makeSlice 26 (.int .i64 8) (.int .i64 8)).run Try.prog x1 = .ok (.slice (some ⟨x1.heap.size, 0, none⟩) 8 8) (x1.alloc (.cells (madeCells #[.int .i64 0] 8) 3)) := mkInts 8 (by omega) x1
        go_simp
        clear hmk
        have hb : Blw x1 (x1.alloc (.cells (madeCells #[.int .i64 0] 8) 3)) := (Blw.refl _).alloc _
        have R8 : Hid (Row (x1.alloc (.cells (madeCells #[.int .i64 0] 8) 3)) x1.heap.size 8 (fun _ => .int .i64 0)) := Row.made x1 (.int .i64 0) 8 3
        have HZ8 : Hid (w1.heap.size ≤ x1.heap.size ∧ x1.heap.size < (x1.alloc (.cells (madeCells #[.int .i64 0] 8) 3)).heap.size) := ⟨HBW.out.size, by simp⟩
        generalize x1.alloc (.cells (madeCells #[.int .i64 0] 8) 3) = x2 at *
        replace HBW : Hid (Blw w1 x2) := HBW.out.trans hb
        replace RN : Hid (Row x2 wd.heap.size D.nt (fun _ => .int .i64 0)) := RN.out.blw hb
        have HY1 : Hid (x1.heap.size ≤ x2.heap.size) := hb.size
        clear hb
        refine hK.out _ _ (four (HC.out.blw HBW.out)) (fun hB => ?_)
        clear hK K hB
        try simp only [Act.put, List.setIfInBounds_toArray, List.set_cons_zero, List.set_cons_succ]
        refine wpAnyH_take (i := 18) (oi := { dst := some 22, op := Op.build 61 #[(0, Operand.tmp 7), (1, Operand.tmp 11), (2, Operand.tmp 12), (3, Operand.tmp 17), (4, Operand.tmp 21)], type := 61, pos := _, after := #[{ on := 3, ground := Ground.data }, { on := 7, ground := Ground.data }, { on := 8, ground := Ground.data }, { on := 13, ground := Ground.data }, { on := 17, ground := Ground.data }], guard := none }) (v := (.agg #[.int .i64 D.at_, .int .i64 D.acc, .slice (some ⟨x1.heap.size, 0, none⟩) 8 8, .slice (some ⟨wd.heap.size, 0, none⟩) D.nt D.nt, .bool D.d])) rfl (by kernel_rfl) (by kernel_rfl) (by kernel_rfl) (fun _ _ _ h => h) (Or.inl ⟨by rfl, fun w' hS => by (try dsimp only at hS); go_simp⟩) (four (HC.out.blw HBW.out)) ?_
        simp only [Act.put, List.setIfInBounds_toArray, List.set_cons_zero, List.set_cons_succ]
        refine wpAnyH_ready (rs := [19]) (by kernel_rfl) (by simp) ?_
        refine AllReadyH.cons (o := { dst := some 3, op := Op.alloc 61, type := 0, pos := _, after := #[], guard := none }) rfl (fun K hK => ?_) AllReadyH.nil
        go_simp
        have hb : Blw x2 (x2.alloc (.cells #[.int .i64 0, .int .i64 0, .slice none 0 0, .slice none 0 0, .bool false] 61)) := (Blw.refl _).alloc _
        have RG : Hid (Row (x2.alloc (.cells #[.int .i64 0, .int .i64 0, .slice none 0 0, .slice none 0 0, .bool false] 61)) x2.heap.size 5 (fun i => if i = 0 then .int .i64 0 else if i = 1 then .int .i64 0 else if i = 2 then .slice none 0 0 else if i = 3 then .slice none 0 0 else .bool false)) := row5 x2 (.int .i64 0) (.int .i64 0) (.slice none 0 0) (.slice none 0 0) (.bool false) 61
        have HZ19 : Hid (w1.heap.size ≤ x2.heap.size ∧ x2.heap.size < (x2.alloc (.cells #[.int .i64 0, .int .i64 0, .slice none 0 0, .slice none 0 0, .bool false] 61)).heap.size) := ⟨HBW.out.size, by simp⟩
        generalize x2.alloc (.cells #[.int .i64 0, .int .i64 0, .slice none 0 0, .slice none 0 0, .bool false] 61) = x3 at *
        replace HBW : Hid (Blw w1 x3) := HBW.out.trans hb
        replace RN : Hid (Row x3 wd.heap.size D.nt (fun _ => .int .i64 0)) := RN.out.blw hb
        replace R8 : Hid (Row x3 x1.heap.size 8 (fun _ => .int .i64 0)) := R8.out.blw hb
        have HY2 : Hid (x2.heap.size ≤ x3.heap.size) := hb.size
        clear hb
        refine hK.out _ _ (four (HC.out.blw HBW.out)) (fun hB => ?_)
        clear hK K hB
        try simp only [Act.put, List.setIfInBounds_toArray, List.set_cons_zero, List.set_cons_succ]
        refine wpAnyH_ready (rs := [20]) (by kernel_rfl) (by simp) ?_
        refine AllReadyH.cons (o := { dst := none, op := Op.store 61 (Operand.tmp 3) (Operand.tmp 22), type := 0, pos := _, after := #[{ on := 19, ground := Ground.data }, { on := 18, ground := Ground.data }, { on := 0, ground := Ground.phase }, { on := 1, ground := Ground.phase }, { on := 2, ground := Ground.phase }, { on := 3, ground := Ground.phase }, { on := 4, ground := Ground.phase }, { on := 5, ground := Ground.phase }, { on := 6, ground := Ground.phase }, { on := 7, ground := Ground.phase }, { on := 8, ground := Ground.phase }, { on := 9, ground := Ground.phase }, { on := 10, ground := Ground.phase }, { on := 11, ground := Ground.phase }, { on := 12, ground := Ground.phase }, { on := 13, ground := Ground.phase }, { on := 14, ground := Ground.phase }, { on := 15, ground := Ground.phase }, { on := 16, ground := Ground.phase }, { on := 17, ground := Ground.phase }, { on := 18, ground := Ground.phase }, { on := 19, ground := Ground.phase }], guard := none }) rfl (fun K hK => ?_) AllReadyH.nil
        obtain ⟨t0, t1, t2, t3, t4⟩ := get5 RG.out
        have f0 := RG.out.frozen 0
        have f1 := RG.out.frozen 1
        have f2 := RG.out.frozen 2
        have f3 := RG.out.frozen 3
        have f4 := RG.out.frozen 4
        have o8 := HZ8.out
        have o13 := HZ13.out
        have o19 := HZ19.out
        have y0 := HY0.out
        have y1 := HY1.out
        have y2 := HY2.out
        have m1 := set5_modG x3 x2.heap.size (.int .i64 D.at_) (.int .i64 D.acc) (.slice (some ⟨x1.heap.size, 0, none⟩) 8 8) (.slice (some ⟨wd.heap.size, 0, none⟩) D.nt D.nt) (.bool D.d) (X := fun x => x = x2.heap.size) rfl
        have FIN : Hid (GoRel w1 D (.pointer (some ⟨x2.heap.size, 0, none⟩)) (((((x3.setCell ⟨x2.heap.size, 0, none⟩ (.int .i64 D.at_)).setCell ⟨x2.heap.size, 1, none⟩ (.int .i64 D.acc)).setCell ⟨x2.heap.size, 2, none⟩ (.slice (some ⟨x1.heap.size, 0, none⟩) 8 8)).setCell ⟨x2.heap.size, 3, none⟩ (.slice (some ⟨wd.heap.size, 0, none⟩) D.nt D.nt)).setCell ⟨x2.heap.size, 4, none⟩ (.bool D.d))) := ⟨x2.heap.size, x1.heap.size, wd.heap.size, rfl, set5_all RG.out _ _ _ _ _, R8.out.mod m1 (by omega), RN.out.mod m1 (by omega), ⟨by omega, by omega, by omega, by omega, by omega, by omega⟩, Mod.blw HBW.out m1 (fun i hi => by omega)⟩
        replace HBW : Hid (Blw w1 (((((x3.setCell ⟨x2.heap.size, 0, none⟩ (.int .i64 D.at_)).setCell ⟨x2.heap.size, 1, none⟩ (.int .i64 D.acc)).setCell ⟨x2.heap.size, 2, none⟩ (.slice (some ⟨x1.heap.size, 0, none⟩) 8 8)).setCell ⟨x2.heap.size, 3, none⟩ (.slice (some ⟨wd.heap.size, 0, none⟩) D.nt D.nt)).setCell ⟨x2.heap.size, 4, none⟩ (.bool D.d))) := Mod.blw HBW.out m1 (fun i hi => by omega)
        clear m1 o8 o13 o19 y0 y1 y2 R8 RN RG
        go_simp
        refine hK.out _ _ (four (HC.out.blw HBW.out)) (fun hB => ?_)
        clear hK K hB
        try simp only [Act.put, List.setIfInBounds_toArray, List.set_cons_zero, List.set_cons_succ]
        clear t0 t1 t2 t3 t4 f0 f1 f2 f3 f4
        refine wpAnyH_done (by kernel_rfl) ?_ _
        refine NoPanic.normal ?_
        go_wp2_with fail
        go_meet
        exact FIN.out
      · go_simp
        have hb : Blw x1 (x1.alloc (.cells #[.int .i64 0, .int .i64 0, .slice none 0 0, .slice none 0 0, .bool false] 61)) := (Blw.refl _).alloc _
        have RG : Hid (Row (x1.alloc (.cells #[.int .i64 0, .int .i64 0, .slice none 0 0, .slice none 0 0, .bool false] 61)) x1.heap.size 5 (fun i => if i = 0 then .int .i64 0 else if i = 1 then .int .i64 0 else if i = 2 then .slice none 0 0 else if i = 3 then .slice none 0 0 else .bool false)) := row5 x1 (.int .i64 0) (.int .i64 0) (.slice none 0 0) (.slice none 0 0) (.bool false) 61
        have HZ19 : Hid (w1.heap.size ≤ x1.heap.size ∧ x1.heap.size < (x1.alloc (.cells #[.int .i64 0, .int .i64 0, .slice none 0 0, .slice none 0 0, .bool false] 61)).heap.size) := ⟨HBW.out.size, by simp⟩
        generalize x1.alloc (.cells #[.int .i64 0, .int .i64 0, .slice none 0 0, .slice none 0 0, .bool false] 61) = x2 at *
        replace HBW : Hid (Blw w1 x2) := HBW.out.trans hb
        replace RN : Hid (Row x2 wd.heap.size D.nt (fun _ => .int .i64 0)) := RN.out.blw hb
        have HY1 : Hid (x1.heap.size ≤ x2.heap.size) := hb.size
        clear hb
        refine hK.out _ _ (four (HC.out.blw HBW.out)) (fun hB => ?_)
        clear hK K hB
        try simp only [Act.put, List.setIfInBounds_toArray, List.set_cons_zero, List.set_cons_succ]
        refine wpAnyH_ready (rs := [8]) (by kernel_rfl) (by simp) ?_
        refine AllReadyH.cons (o := { dst := some 12, op := Op.makeSlice 26 (Operand.const (Value.int IntKind.i64 8)) (Operand.const (Value.int IntKind.i64 8)), type := 26, pos := _, after := #[], guard := none }) rfl (fun K hK => ?_) AllReadyH.nil
        have hmk : (Instr.makeSlice 26 (.int .i64 8) (.int .i64 8)).run Try.prog x2 = .ok (.slice (some ⟨x2.heap.size, 0, none⟩) 8 8) (x2.alloc (.cells (madeCells #[.int .i64 0] 8) 3)) := mkInts 8 (by omega) x2
        go_simp
        clear hmk
        have hb : Blw x2 (x2.alloc (.cells (madeCells #[.int .i64 0] 8) 3)) := (Blw.refl _).alloc _
        have R8 : Hid (Row (x2.alloc (.cells (madeCells #[.int .i64 0] 8) 3)) x2.heap.size 8 (fun _ => .int .i64 0)) := Row.made x2 (.int .i64 0) 8 3
        have HZ8 : Hid (w1.heap.size ≤ x2.heap.size ∧ x2.heap.size < (x2.alloc (.cells (madeCells #[.int .i64 0] 8) 3)).heap.size) := ⟨HBW.out.size, by simp⟩
        generalize x2.alloc (.cells (madeCells #[.int .i64 0] 8) 3) = x3 at *
        replace HBW : Hid (Blw w1 x3) := HBW.out.trans hb
        replace RN : Hid (Row x3 wd.heap.size D.nt (fun _ => .int .i64 0)) := RN.out.blw hb
        replace RG : Hid (Row x3 x1.heap.size 5 (fun i => if i = 0 then .int .i64 0 else if i = 1 then .int .i64 0 else if i = 2 then .slice none 0 0 else if i = 3 then .slice none 0 0 else .bool false)) := RG.out.blw hb
        have HY2 : Hid (x2.heap.size ≤ x3.heap.size) := hb.size
        clear hb
        refine hK.out _ _ (four (HC.out.blw HBW.out)) (fun hB => ?_)
        clear hK K hB
        try simp only [Act.put, List.setIfInBounds_toArray, List.set_cons_zero, List.set_cons_succ]
        refine wpAnyH_take (i := 18) (oi := { dst := some 22, op := Op.build 61 #[(0, Operand.tmp 7), (1, Operand.tmp 11), (2, Operand.tmp 12), (3, Operand.tmp 17), (4, Operand.tmp 21)], type := 61, pos := _, after := #[{ on := 3, ground := Ground.data }, { on := 7, ground := Ground.data }, { on := 8, ground := Ground.data }, { on := 13, ground := Ground.data }, { on := 17, ground := Ground.data }], guard := none }) (v := (.agg #[.int .i64 D.at_, .int .i64 D.acc, .slice (some ⟨x2.heap.size, 0, none⟩) 8 8, .slice (some ⟨wd.heap.size, 0, none⟩) D.nt D.nt, .bool D.d])) rfl (by kernel_rfl) (by kernel_rfl) (by kernel_rfl) (fun _ _ _ h => h) (Or.inl ⟨by rfl, fun w' hS => by (try dsimp only at hS); go_simp⟩) (four (HC.out.blw HBW.out)) ?_
        simp only [Act.put, List.setIfInBounds_toArray, List.set_cons_zero, List.set_cons_succ]
        refine wpAnyH_ready (rs := [20]) (by kernel_rfl) (by simp) ?_
        refine AllReadyH.cons (o := { dst := none, op := Op.store 61 (Operand.tmp 3) (Operand.tmp 22), type := 0, pos := _, after := #[{ on := 19, ground := Ground.data }, { on := 18, ground := Ground.data }, { on := 0, ground := Ground.phase }, { on := 1, ground := Ground.phase }, { on := 2, ground := Ground.phase }, { on := 3, ground := Ground.phase }, { on := 4, ground := Ground.phase }, { on := 5, ground := Ground.phase }, { on := 6, ground := Ground.phase }, { on := 7, ground := Ground.phase }, { on := 8, ground := Ground.phase }, { on := 9, ground := Ground.phase }, { on := 10, ground := Ground.phase }, { on := 11, ground := Ground.phase }, { on := 12, ground := Ground.phase }, { on := 13, ground := Ground.phase }, { on := 14, ground := Ground.phase }, { on := 15, ground := Ground.phase }, { on := 16, ground := Ground.phase }, { on := 17, ground := Ground.phase }, { on := 18, ground := Ground.phase }, { on := 19, ground := Ground.phase }], guard := none }) rfl (fun K hK => ?_) AllReadyH.nil
        obtain ⟨t0, t1, t2, t3, t4⟩ := get5 RG.out
        have f0 := RG.out.frozen 0
        have f1 := RG.out.frozen 1
        have f2 := RG.out.frozen 2
        have f3 := RG.out.frozen 3
        have f4 := RG.out.frozen 4
        have o8 := HZ8.out
        have o13 := HZ13.out
        have o19 := HZ19.out
        have y0 := HY0.out
        have y1 := HY1.out
        have y2 := HY2.out
        have m1 := set5_modG x3 x1.heap.size (.int .i64 D.at_) (.int .i64 D.acc) (.slice (some ⟨x2.heap.size, 0, none⟩) 8 8) (.slice (some ⟨wd.heap.size, 0, none⟩) D.nt D.nt) (.bool D.d) (X := fun x => x = x1.heap.size) rfl
        have FIN : Hid (GoRel w1 D (.pointer (some ⟨x1.heap.size, 0, none⟩)) (((((x3.setCell ⟨x1.heap.size, 0, none⟩ (.int .i64 D.at_)).setCell ⟨x1.heap.size, 1, none⟩ (.int .i64 D.acc)).setCell ⟨x1.heap.size, 2, none⟩ (.slice (some ⟨x2.heap.size, 0, none⟩) 8 8)).setCell ⟨x1.heap.size, 3, none⟩ (.slice (some ⟨wd.heap.size, 0, none⟩) D.nt D.nt)).setCell ⟨x1.heap.size, 4, none⟩ (.bool D.d))) := ⟨x1.heap.size, x2.heap.size, wd.heap.size, rfl, set5_all RG.out _ _ _ _ _, R8.out.mod m1 (by omega), RN.out.mod m1 (by omega), ⟨by omega, by omega, by omega, by omega, by omega, by omega⟩, Mod.blw HBW.out m1 (fun i hi => by omega)⟩
        replace HBW : Hid (Blw w1 (((((x3.setCell ⟨x1.heap.size, 0, none⟩ (.int .i64 D.at_)).setCell ⟨x1.heap.size, 1, none⟩ (.int .i64 D.acc)).setCell ⟨x1.heap.size, 2, none⟩ (.slice (some ⟨x2.heap.size, 0, none⟩) 8 8)).setCell ⟨x1.heap.size, 3, none⟩ (.slice (some ⟨wd.heap.size, 0, none⟩) D.nt D.nt)).setCell ⟨x1.heap.size, 4, none⟩ (.bool D.d))) := Mod.blw HBW.out m1 (fun i hi => by omega)
        clear m1 o8 o13 o19 y0 y1 y2 R8 RN RG
        go_simp
        refine hK.out _ _ (four (HC.out.blw HBW.out)) (fun hB => ?_)
        clear hK K hB
        try simp only [Act.put, List.setIfInBounds_toArray, List.set_cons_zero, List.set_cons_succ]
        clear t0 t1 t2 t3 t4 f0 f1 f2 f3 f4
        refine wpAnyH_done (by kernel_rfl) ?_ _
        refine NoPanic.normal ?_
        go_wp2_with fail
        go_meet
        exact FIN.out
    · go_simp
      have hb : Blw wd (wd.alloc (.cells #[.int .i64 0, .int .i64 0, .slice none 0 0, .slice none 0 0, .bool false] 61)) := (Blw.refl _).alloc _
      have RG : Hid (Row (wd.alloc (.cells #[.int .i64 0, .int .i64 0, .slice none 0 0, .slice none 0 0, .bool false] 61)) wd.heap.size 5 (fun i => if i = 0 then .int .i64 0 else if i = 1 then .int .i64 0 else if i = 2 then .slice none 0 0 else if i = 3 then .slice none 0 0 else .bool false)) := row5 wd (.int .i64 0) (.int .i64 0) (.slice none 0 0) (.slice none 0 0) (.bool false) 61
      have HZ19 : Hid (w1.heap.size ≤ wd.heap.size ∧ wd.heap.size < (wd.alloc (.cells #[.int .i64 0, .int .i64 0, .slice none 0 0, .slice none 0 0, .bool false] 61)).heap.size) := ⟨HBW.out.size, by simp⟩
      generalize wd.alloc (.cells #[.int .i64 0, .int .i64 0, .slice none 0 0, .slice none 0 0, .bool false] 61) = x1 at *
      replace HBW : Hid (Blw w1 x1) := HBW.out.trans hb
      have HY0 : Hid (wd.heap.size ≤ x1.heap.size) := hb.size
      clear hb
      refine hK.out _ _ (four (HC.out.blw HBW.out)) (fun hB => ?_)
      clear hK K hB
      try simp only [Act.put, List.setIfInBounds_toArray, List.set_cons_zero, List.set_cons_succ]
      refine wpAnyH_ready (rs := [8, 13]) (by kernel_rfl) (by simp) ?_
      refine AllReadyH.cons (o := { dst := some 12, op := Op.makeSlice 26 (Operand.const (Value.int IntKind.i64 8)) (Operand.const (Value.int IntKind.i64 8)), type := 26, pos := _, after := #[], guard := none }) rfl (fun K hK => ?_) (AllReadyH.cons (o := { dst := some 17, op := Op.makeSlice 26 (Operand.tmp 16) (Operand.tmp 16), type := 26, pos := _, after := #[{ on := 12, ground := Ground.data }, { on := 12, ground := Ground.data }], guard := none }) rfl (fun K hK => ?_) AllReadyH.nil)
      · have hmk : (Instr.makeSlice 26 (.int .i64 8) (.int .i64 8)).run Try.prog x1 = .ok (.slice (some ⟨x1.heap.size, 0, none⟩) 8 8) (x1.alloc (.cells (madeCells #[.int .i64 0] 8) 3)) := mkInts 8 (by omega) x1
        go_simp
        clear hmk
        have hb : Blw x1 (x1.alloc (.cells (madeCells #[.int .i64 0] 8) 3)) := (Blw.refl _).alloc _
        have R8 : Hid (Row (x1.alloc (.cells (madeCells #[.int .i64 0] 8) 3)) x1.heap.size 8 (fun _ => .int .i64 0)) := Row.made x1 (.int .i64 0) 8 3
        have HZ8 : Hid (w1.heap.size ≤ x1.heap.size ∧ x1.heap.size < (x1.alloc (.cells (madeCells #[.int .i64 0] 8) 3)).heap.size) := ⟨HBW.out.size, by simp⟩
        generalize x1.alloc (.cells (madeCells #[.int .i64 0] 8) 3) = x2 at *
        replace HBW : Hid (Blw w1 x2) := HBW.out.trans hb
        replace RG : Hid (Row x2 wd.heap.size 5 (fun i => if i = 0 then .int .i64 0 else if i = 1 then .int .i64 0 else if i = 2 then .slice none 0 0 else if i = 3 then .slice none 0 0 else .bool false)) := RG.out.blw hb
        have HY1 : Hid (x1.heap.size ≤ x2.heap.size) := hb.size
        clear hb
        refine hK.out _ _ (four (HC.out.blw HBW.out)) (fun hB => ?_)
        clear hK K hB
        try simp only [Act.put, List.setIfInBounds_toArray, List.set_cons_zero, List.set_cons_succ]
        refine wpAnyH_ready (rs := [13]) (by kernel_rfl) (by simp) ?_
        refine AllReadyH.cons (o := { dst := some 17, op := Op.makeSlice 26 (Operand.tmp 16) (Operand.tmp 16), type := 26, pos := _, after := #[{ on := 12, ground := Ground.data }, { on := 12, ground := Ground.data }], guard := none }) rfl (fun K hK => ?_) AllReadyH.nil
        have hmk := mkInts D.nt (by omega) x2
        go_simp
        clear hmk
        have hb : Blw x2 (x2.alloc (.cells (madeCells #[.int .i64 0] D.nt) 3)) := (Blw.refl _).alloc _
        have RN : Hid (Row (x2.alloc (.cells (madeCells #[.int .i64 0] D.nt) 3)) x2.heap.size D.nt (fun _ => .int .i64 0)) := Row.made x2 (.int .i64 0) D.nt 3
        have HZ13 : Hid (w1.heap.size ≤ x2.heap.size ∧ x2.heap.size < (x2.alloc (.cells (madeCells #[.int .i64 0] D.nt) 3)).heap.size) := ⟨HBW.out.size, by simp⟩
        generalize x2.alloc (.cells (madeCells #[.int .i64 0] D.nt) 3) = x3 at *
        replace HBW : Hid (Blw w1 x3) := HBW.out.trans hb
        replace RG : Hid (Row x3 wd.heap.size 5 (fun i => if i = 0 then .int .i64 0 else if i = 1 then .int .i64 0 else if i = 2 then .slice none 0 0 else if i = 3 then .slice none 0 0 else .bool false)) := RG.out.blw hb
        replace R8 : Hid (Row x3 x1.heap.size 8 (fun _ => .int .i64 0)) := R8.out.blw hb
        have HY2 : Hid (x2.heap.size ≤ x3.heap.size) := hb.size
        clear hb
        refine hK.out _ _ (four (HC.out.blw HBW.out)) (fun hB => ?_)
        clear hK K hB
        try simp only [Act.put, List.setIfInBounds_toArray, List.set_cons_zero, List.set_cons_succ]
        refine wpAnyH_take (i := 18) (oi := { dst := some 22, op := Op.build 61 #[(0, Operand.tmp 7), (1, Operand.tmp 11), (2, Operand.tmp 12), (3, Operand.tmp 17), (4, Operand.tmp 21)], type := 61, pos := _, after := #[{ on := 3, ground := Ground.data }, { on := 7, ground := Ground.data }, { on := 8, ground := Ground.data }, { on := 13, ground := Ground.data }, { on := 17, ground := Ground.data }], guard := none }) (v := (.agg #[.int .i64 D.at_, .int .i64 D.acc, .slice (some ⟨x1.heap.size, 0, none⟩) 8 8, .slice (some ⟨x2.heap.size, 0, none⟩) D.nt D.nt, .bool D.d])) rfl (by kernel_rfl) (by kernel_rfl) (by kernel_rfl) (fun _ _ _ h => h) (Or.inl ⟨by rfl, fun w' hS => by (try dsimp only at hS); go_simp⟩) (four (HC.out.blw HBW.out)) ?_
        simp only [Act.put, List.setIfInBounds_toArray, List.set_cons_zero, List.set_cons_succ]
        refine wpAnyH_ready (rs := [20]) (by kernel_rfl) (by simp) ?_
        refine AllReadyH.cons (o := { dst := none, op := Op.store 61 (Operand.tmp 3) (Operand.tmp 22), type := 0, pos := _, after := #[{ on := 19, ground := Ground.data }, { on := 18, ground := Ground.data }, { on := 0, ground := Ground.phase }, { on := 1, ground := Ground.phase }, { on := 2, ground := Ground.phase }, { on := 3, ground := Ground.phase }, { on := 4, ground := Ground.phase }, { on := 5, ground := Ground.phase }, { on := 6, ground := Ground.phase }, { on := 7, ground := Ground.phase }, { on := 8, ground := Ground.phase }, { on := 9, ground := Ground.phase }, { on := 10, ground := Ground.phase }, { on := 11, ground := Ground.phase }, { on := 12, ground := Ground.phase }, { on := 13, ground := Ground.phase }, { on := 14, ground := Ground.phase }, { on := 15, ground := Ground.phase }, { on := 16, ground := Ground.phase }, { on := 17, ground := Ground.phase }, { on := 18, ground := Ground.phase }, { on := 19, ground := Ground.phase }], guard := none }) rfl (fun K hK => ?_) AllReadyH.nil
        obtain ⟨t0, t1, t2, t3, t4⟩ := get5 RG.out
        have f0 := RG.out.frozen 0
        have f1 := RG.out.frozen 1
        have f2 := RG.out.frozen 2
        have f3 := RG.out.frozen 3
        have f4 := RG.out.frozen 4
        have o8 := HZ8.out
        have o13 := HZ13.out
        have o19 := HZ19.out
        have y0 := HY0.out
        have y1 := HY1.out
        have y2 := HY2.out
        have m1 := set5_modG x3 wd.heap.size (.int .i64 D.at_) (.int .i64 D.acc) (.slice (some ⟨x1.heap.size, 0, none⟩) 8 8) (.slice (some ⟨x2.heap.size, 0, none⟩) D.nt D.nt) (.bool D.d) (X := fun x => x = wd.heap.size) rfl
        have FIN : Hid (GoRel w1 D (.pointer (some ⟨wd.heap.size, 0, none⟩)) (((((x3.setCell ⟨wd.heap.size, 0, none⟩ (.int .i64 D.at_)).setCell ⟨wd.heap.size, 1, none⟩ (.int .i64 D.acc)).setCell ⟨wd.heap.size, 2, none⟩ (.slice (some ⟨x1.heap.size, 0, none⟩) 8 8)).setCell ⟨wd.heap.size, 3, none⟩ (.slice (some ⟨x2.heap.size, 0, none⟩) D.nt D.nt)).setCell ⟨wd.heap.size, 4, none⟩ (.bool D.d))) := ⟨wd.heap.size, x1.heap.size, x2.heap.size, rfl, set5_all RG.out _ _ _ _ _, R8.out.mod m1 (by omega), RN.out.mod m1 (by omega), ⟨by omega, by omega, by omega, by omega, by omega, by omega⟩, Mod.blw HBW.out m1 (fun i hi => by omega)⟩
        replace HBW : Hid (Blw w1 (((((x3.setCell ⟨wd.heap.size, 0, none⟩ (.int .i64 D.at_)).setCell ⟨wd.heap.size, 1, none⟩ (.int .i64 D.acc)).setCell ⟨wd.heap.size, 2, none⟩ (.slice (some ⟨x1.heap.size, 0, none⟩) 8 8)).setCell ⟨wd.heap.size, 3, none⟩ (.slice (some ⟨x2.heap.size, 0, none⟩) D.nt D.nt)).setCell ⟨wd.heap.size, 4, none⟩ (.bool D.d))) := Mod.blw HBW.out m1 (fun i hi => by omega)
        clear m1 o8 o13 o19 y0 y1 y2 R8 RN RG
        go_simp
        refine hK.out _ _ (four (HC.out.blw HBW.out)) (fun hB => ?_)
        clear hK K hB
        try simp only [Act.put, List.setIfInBounds_toArray, List.set_cons_zero, List.set_cons_succ]
        clear t0 t1 t2 t3 t4 f0 f1 f2 f3 f4
        refine wpAnyH_done (by kernel_rfl) ?_ _
        refine NoPanic.normal ?_
        go_wp2_with fail
        go_meet
        exact FIN.out
      · have hmk := mkInts D.nt (by omega) x1
        go_simp
        clear hmk
        have hb : Blw x1 (x1.alloc (.cells (madeCells #[.int .i64 0] D.nt) 3)) := (Blw.refl _).alloc _
        have RN : Hid (Row (x1.alloc (.cells (madeCells #[.int .i64 0] D.nt) 3)) x1.heap.size D.nt (fun _ => .int .i64 0)) := Row.made x1 (.int .i64 0) D.nt 3
        have HZ13 : Hid (w1.heap.size ≤ x1.heap.size ∧ x1.heap.size < (x1.alloc (.cells (madeCells #[.int .i64 0] D.nt) 3)).heap.size) := ⟨HBW.out.size, by simp⟩
        generalize x1.alloc (.cells (madeCells #[.int .i64 0] D.nt) 3) = x2 at *
        replace HBW : Hid (Blw w1 x2) := HBW.out.trans hb
        replace RG : Hid (Row x2 wd.heap.size 5 (fun i => if i = 0 then .int .i64 0 else if i = 1 then .int .i64 0 else if i = 2 then .slice none 0 0 else if i = 3 then .slice none 0 0 else .bool false)) := RG.out.blw hb
        have HY1 : Hid (x1.heap.size ≤ x2.heap.size) := hb.size
        clear hb
        refine hK.out _ _ (four (HC.out.blw HBW.out)) (fun hB => ?_)
        clear hK K hB
        try simp only [Act.put, List.setIfInBounds_toArray, List.set_cons_zero, List.set_cons_succ]
        refine wpAnyH_ready (rs := [8]) (by kernel_rfl) (by simp) ?_
        refine AllReadyH.cons (o := { dst := some 12, op := Op.makeSlice 26 (Operand.const (Value.int IntKind.i64 8)) (Operand.const (Value.int IntKind.i64 8)), type := 26, pos := _, after := #[], guard := none }) rfl (fun K hK => ?_) AllReadyH.nil
        have hmk : (Instr.makeSlice 26 (.int .i64 8) (.int .i64 8)).run Try.prog x2 = .ok (.slice (some ⟨x2.heap.size, 0, none⟩) 8 8) (x2.alloc (.cells (madeCells #[.int .i64 0] 8) 3)) := mkInts 8 (by omega) x2
        go_simp
        clear hmk
        have hb : Blw x2 (x2.alloc (.cells (madeCells #[.int .i64 0] 8) 3)) := (Blw.refl _).alloc _
        have R8 : Hid (Row (x2.alloc (.cells (madeCells #[.int .i64 0] 8) 3)) x2.heap.size 8 (fun _ => .int .i64 0)) := Row.made x2 (.int .i64 0) 8 3
        have HZ8 : Hid (w1.heap.size ≤ x2.heap.size ∧ x2.heap.size < (x2.alloc (.cells (madeCells #[.int .i64 0] 8) 3)).heap.size) := ⟨HBW.out.size, by simp⟩
        generalize x2.alloc (.cells (madeCells #[.int .i64 0] 8) 3) = x3 at *
        replace HBW : Hid (Blw w1 x3) := HBW.out.trans hb
        replace RG : Hid (Row x3 wd.heap.size 5 (fun i => if i = 0 then .int .i64 0 else if i = 1 then .int .i64 0 else if i = 2 then .slice none 0 0 else if i = 3 then .slice none 0 0 else .bool false)) := RG.out.blw hb
        replace RN : Hid (Row x3 x1.heap.size D.nt (fun _ => .int .i64 0)) := RN.out.blw hb
        have HY2 : Hid (x2.heap.size ≤ x3.heap.size) := hb.size
        clear hb
        refine hK.out _ _ (four (HC.out.blw HBW.out)) (fun hB => ?_)
        clear hK K hB
        try simp only [Act.put, List.setIfInBounds_toArray, List.set_cons_zero, List.set_cons_succ]
        refine wpAnyH_take (i := 18) (oi := { dst := some 22, op := Op.build 61 #[(0, Operand.tmp 7), (1, Operand.tmp 11), (2, Operand.tmp 12), (3, Operand.tmp 17), (4, Operand.tmp 21)], type := 61, pos := _, after := #[{ on := 3, ground := Ground.data }, { on := 7, ground := Ground.data }, { on := 8, ground := Ground.data }, { on := 13, ground := Ground.data }, { on := 17, ground := Ground.data }], guard := none }) (v := (.agg #[.int .i64 D.at_, .int .i64 D.acc, .slice (some ⟨x2.heap.size, 0, none⟩) 8 8, .slice (some ⟨x1.heap.size, 0, none⟩) D.nt D.nt, .bool D.d])) rfl (by kernel_rfl) (by kernel_rfl) (by kernel_rfl) (fun _ _ _ h => h) (Or.inl ⟨by rfl, fun w' hS => by (try dsimp only at hS); go_simp⟩) (four (HC.out.blw HBW.out)) ?_
        simp only [Act.put, List.setIfInBounds_toArray, List.set_cons_zero, List.set_cons_succ]
        refine wpAnyH_ready (rs := [20]) (by kernel_rfl) (by simp) ?_
        refine AllReadyH.cons (o := { dst := none, op := Op.store 61 (Operand.tmp 3) (Operand.tmp 22), type := 0, pos := _, after := #[{ on := 19, ground := Ground.data }, { on := 18, ground := Ground.data }, { on := 0, ground := Ground.phase }, { on := 1, ground := Ground.phase }, { on := 2, ground := Ground.phase }, { on := 3, ground := Ground.phase }, { on := 4, ground := Ground.phase }, { on := 5, ground := Ground.phase }, { on := 6, ground := Ground.phase }, { on := 7, ground := Ground.phase }, { on := 8, ground := Ground.phase }, { on := 9, ground := Ground.phase }, { on := 10, ground := Ground.phase }, { on := 11, ground := Ground.phase }, { on := 12, ground := Ground.phase }, { on := 13, ground := Ground.phase }, { on := 14, ground := Ground.phase }, { on := 15, ground := Ground.phase }, { on := 16, ground := Ground.phase }, { on := 17, ground := Ground.phase }, { on := 18, ground := Ground.phase }, { on := 19, ground := Ground.phase }], guard := none }) rfl (fun K hK => ?_) AllReadyH.nil
        obtain ⟨t0, t1, t2, t3, t4⟩ := get5 RG.out
        have f0 := RG.out.frozen 0
        have f1 := RG.out.frozen 1
        have f2 := RG.out.frozen 2
        have f3 := RG.out.frozen 3
        have f4 := RG.out.frozen 4
        have o8 := HZ8.out
        have o13 := HZ13.out
        have o19 := HZ19.out
        have y0 := HY0.out
        have y1 := HY1.out
        have y2 := HY2.out
        have m1 := set5_modG x3 wd.heap.size (.int .i64 D.at_) (.int .i64 D.acc) (.slice (some ⟨x2.heap.size, 0, none⟩) 8 8) (.slice (some ⟨x1.heap.size, 0, none⟩) D.nt D.nt) (.bool D.d) (X := fun x => x = wd.heap.size) rfl
        have FIN : Hid (GoRel w1 D (.pointer (some ⟨wd.heap.size, 0, none⟩)) (((((x3.setCell ⟨wd.heap.size, 0, none⟩ (.int .i64 D.at_)).setCell ⟨wd.heap.size, 1, none⟩ (.int .i64 D.acc)).setCell ⟨wd.heap.size, 2, none⟩ (.slice (some ⟨x2.heap.size, 0, none⟩) 8 8)).setCell ⟨wd.heap.size, 3, none⟩ (.slice (some ⟨x1.heap.size, 0, none⟩) D.nt D.nt)).setCell ⟨wd.heap.size, 4, none⟩ (.bool D.d))) := ⟨wd.heap.size, x2.heap.size, x1.heap.size, rfl, set5_all RG.out _ _ _ _ _, R8.out.mod m1 (by omega), RN.out.mod m1 (by omega), ⟨by omega, by omega, by omega, by omega, by omega, by omega⟩, Mod.blw HBW.out m1 (fun i hi => by omega)⟩
        replace HBW : Hid (Blw w1 (((((x3.setCell ⟨wd.heap.size, 0, none⟩ (.int .i64 D.at_)).setCell ⟨wd.heap.size, 1, none⟩ (.int .i64 D.acc)).setCell ⟨wd.heap.size, 2, none⟩ (.slice (some ⟨x2.heap.size, 0, none⟩) 8 8)).setCell ⟨wd.heap.size, 3, none⟩ (.slice (some ⟨x1.heap.size, 0, none⟩) D.nt D.nt)).setCell ⟨wd.heap.size, 4, none⟩ (.bool D.d))) := Mod.blw HBW.out m1 (fun i hi => by omega)
        clear m1 o8 o13 o19 y0 y1 y2 R8 RN RG
        go_simp
        refine hK.out _ _ (four (HC.out.blw HBW.out)) (fun hB => ?_)
        clear hK K hB
        try simp only [Act.put, List.setIfInBounds_toArray, List.set_cons_zero, List.set_cons_succ]
        clear t0 t1 t2 t3 t4 f0 f1 f2 f3 f4
        refine wpAnyH_done (by kernel_rfl) ?_ _
        refine NoPanic.normal ?_
        go_wp2_with fail
        go_meet
        exact FIN.out
  case rest =>
  obtain ⟨zg, z1, z2, rfl, hgr, hr1, hr2, hd, hb⟩ := hcut
  have HGR : Hid (Row wc zg 5 (fun i => if i = 0 then .int .i64 D.at_ else if i = 1 then .int .i64 D.acc else if i = 2 then .slice (some ⟨z1, 0, none⟩) 8 8 else if i = 3 then .slice (some ⟨z2, 0, none⟩) D.nt D.nt else .bool D.d)) := hgr
  have HE0 : Hid (Row wc.drew z1 8 (fun _ => .int .i64 0)) := hr1.blw (Blw.refl _).drew
  have HN0 : Hid (Row wc.drew z2 D.nt (fun _ => .int .i64 0)) := hr2.blw (Blw.refl _).drew
  have HD : Hid (w1.heap.size ≤ zg ∧ w1.heap.size ≤ z1 ∧ w1.heap.size ≤ z2 ∧ zg ≠ z1 ∧ zg ≠ z2 ∧ z1 ≠ z2) := hd
  have HBW : Hid (Blw w1 wc) := hb
  clear hgr hr1 hr2 hd hb
  go_upto_region 2 with fail
  replace HGR : Hid (Row wc.drew zg 5 (fun i => if i = 0 then .int .i64 D.at_ else if i = 1 then .int .i64 D.acc else if i = 2 then .slice (some ⟨z1, 0, none⟩) 8 8 else if i = 3 then .slice (some ⟨z2, 0, none⟩) D.nt D.nt else .bool D.d)) := HGR.out.blw (Blw.refl _).drew
  replace HBW : Hid (Blw w1 wc.drew) := HBW.out.drew
  refine wp_region_noPanic ?_
  refine wp_region_held_drew (S := fun w' => w'.cell? ⟨zg, 2, none⟩ = some (.slice (some ⟨z1, 0, none⟩) 8 8)) (by kernel_rfl) (get5 HGR.out).2.2.1 (fun hB => ?_)
  clear hB
  refine wpAnyH_take (i := 0) (oi := { dst := some 23, op := Op.fieldAddr 61 (Operand.tmp 3) 2, type := 0, pos := _, after := #[], guard := none }) (v := (.pointer (some ⟨zg, 2, none⟩))) rfl (by kernel_rfl) (by kernel_rfl) (by kernel_rfl) (fun _ _ _ h => h) (Or.inl ⟨by rfl, fun w' hS => by (try dsimp only at hS); go_simp⟩) (get5 HGR.out).2.2.1 ?_
  simp only [Act.put, List.setIfInBounds_toArray, List.set_cons_zero, List.set_cons_succ]
  refine wpAnyH_take (i := 2) (oi := { dst := some 25, op := Op.move (Operand.tmp 0), type := 209, pos := _, after := #[], guard := none }) (v := (.pointer (some ⟨z, 0, none⟩))) rfl (by kernel_rfl) (by kernel_rfl) (by kernel_rfl) (fun _ _ _ h => h) (Or.inl ⟨by rfl, fun w' hS => by (try dsimp only at hS); go_simp⟩) (get5 HGR.out).2.2.1 ?_
  simp only [Act.put, List.setIfInBounds_toArray, List.set_cons_zero, List.set_cons_succ]
  refine wpAnyH_take (i := 1) (oi := { dst := some 24, op := Op.load 26 (Operand.tmp 23), type := 26, pos := _, after := #[{ on := 0, ground := Ground.data }], guard := none }) (v := (.slice (some ⟨z1, 0, none⟩) 8 8)) rfl (by kernel_rfl) (by kernel_rfl) (by kernel_rfl) (fun _ _ _ h => h) (Or.inl ⟨by rfl, fun w' hS => by (try dsimp only at hS); go_simp⟩) (get5 HGR.out).2.2.1 ?_
  simp only [Act.put, List.setIfInBounds_toArray, List.set_cons_zero, List.set_cons_succ]
  refine wpAnyH_take (i := 3) (oi := { dst := some 26, op := Op.nilCheck (Operand.tmp 25), type := 0, pos := _, after := #[{ on := 2, ground := Ground.data }], guard := none }) (v := (.pointer (some ⟨z, 0, none⟩))) rfl (by kernel_rfl) (by kernel_rfl) (by kernel_rfl) (fun _ _ _ h => h) (Or.inl ⟨by rfl, fun w' hS => by (try dsimp only at hS); go_simp⟩) (get5 HGR.out).2.2.1 ?_
  simp only [Act.put, List.setIfInBounds_toArray, List.set_cons_zero, List.set_cons_succ]
  refine wpAnyH_take (i := 4) (oi := { dst := some 27, op := Op.fieldAddr 148 (Operand.tmp 26) 2, type := 0, pos := _, after := #[{ on := 3, ground := Ground.data }], guard := none }) (v := (.pointer (some ⟨z, 2, none⟩))) rfl (by kernel_rfl) (by kernel_rfl) (by kernel_rfl) (fun _ _ _ h => h) (Or.inl ⟨by rfl, fun w' hS => by (try dsimp only at hS); go_simp⟩) (get5 HGR.out).2.2.1 ?_
  simp only [Act.put, List.setIfInBounds_toArray, List.set_cons_zero, List.set_cons_succ]
  refine wpAnyH_take (i := 5) (oi := { dst := some 28, op := Op.slice 145 (Operand.tmp 27) none none none, type := 26, pos := _, after := #[{ on := 4, ground := Ground.data }], guard := none }) (v := (.slice (some ⟨z, 2, none⟩) 8 8)) rfl (by kernel_rfl) (by kernel_rfl) (by kernel_rfl) (fun _ _ _ h => h) (Or.inl ⟨by rfl, fun w' hS => by (try dsimp only at hS); go_simp⟩) (get5 HGR.out).2.2.1 ?_
  simp only [Act.put, List.setIfInBounds_toArray, List.set_cons_zero, List.set_cons_succ]
  refine wpAnyH_ready (rs := [6]) (by kernel_rfl) (by simp) ?_
  refine AllReadyH.cons (o := { dst := some 29, op := Op.call { callee := Callee.builtin Builtin.copy, args := #[Operand.tmp 24, Operand.tmp 28], argTypes := #[26, 26] }, type := 3, pos := _, after := #[{ on := 1, ground := Ground.data }, { on := 5, ground := Ground.data }], guard := none }) rfl (fun K hK => ?_) AllReadyH.nil
  obtain ⟨x4, hrun, hrow, hmod, hsz⟩ := copy_front (dc := 8) (c := 8) (held_ints (HC.out.blw HBW.out)).1 (by omega) HE0.out
  refine step_copy_run rfl (.tmp 24) (.tmp 28) 26 26 rfl _ _ rfl rfl _ _ hrun ?_
  clear hrun
  have hd := HD.out
  replace HGR : Hid (Row x4 zg 5 (fun i => if i = 0 then .int .i64 D.at_ else if i = 1 then .int .i64 D.acc else if i = 2 then .slice (some ⟨z1, 0, none⟩) 8 8 else if i = 3 then .slice (some ⟨z2, 0, none⟩) D.nt D.nt else .bool D.d)) := HGR.out.mod hmod (by omega)
  replace HBW : Hid (Blw w1 x4) := Mod.blw HBW.out hmod (fun i hi => by omega)
  refine hK.out _ _ (get5 HGR.out).2.2.1 (fun hB => ?_)
  clear hK K hB
  try simp only [Act.put, List.setIfInBounds_toArray, List.set_cons_zero, List.set_cons_succ]
  refine wpAnyH_done (by kernel_rfl) ?_ _
  refine NoPanic.normal ?_
  have HR1 : Hid (Row x4.drew z1 8 (fun i => .int .i64 (D.c i))) := hrow.blw (Blw.refl _).drew
  replace HN0 : Hid (Row x4.drew z2 D.nt (fun _ => .int .i64 0)) := (HN0.out.mod hmod (by omega)).blw (Blw.refl _).drew
  clear hrow hmod hsz hd HE0
  go_upto_region 3 with fail
  replace HGR : Hid (Row x4.drew zg 5 (fun i => if i = 0 then .int .i64 D.at_ else if i = 1 then .int .i64 D.acc else if i = 2 then .slice (some ⟨z1, 0, none⟩) 8 8 else if i = 3 then .slice (some ⟨z2, 0, none⟩) D.nt D.nt else .bool D.d)) := HGR.out.blw (Blw.refl _).drew
  replace HBW : Hid (Blw w1 x4.drew) := HBW.out.drew
  refine wp_region_noPanic ?_
  refine wp_region_held_drew (S := fun w' => w'.cell? ⟨zg, 3, none⟩ = some (.slice (some ⟨z2, 0, none⟩) D.nt D.nt)) (by kernel_rfl) (get5 HGR.out).2.2.2.1 (fun hB => ?_)
  clear hB
  refine wpAnyH_take (i := 0) (oi := { dst := some 30, op := Op.fieldAddr 61 (Operand.tmp 3) 3, type := 0, pos := _, after := #[], guard := none }) (v := (.pointer (some ⟨zg, 3, none⟩))) rfl (by kernel_rfl) (by kernel_rfl) (by kernel_rfl) (fun _ _ _ h => h) (Or.inl ⟨by rfl, fun w' hS => by (try dsimp only at hS); go_simp⟩) (get5 HGR.out).2.2.2.1 ?_
  simp only [Act.put, List.setIfInBounds_toArray, List.set_cons_zero, List.set_cons_succ]
  refine wpAnyH_take (i := 2) (oi := { dst := some 32, op := Op.move (Operand.tmp 0), type := 209, pos := _, after := #[], guard := none }) (v := (.pointer (some ⟨z, 0, none⟩))) rfl (by kernel_rfl) (by kernel_rfl) (by kernel_rfl) (fun _ _ _ h => h) (Or.inl ⟨by rfl, fun w' hS => by (try dsimp only at hS); go_simp⟩) (get5 HGR.out).2.2.2.1 ?_
  simp only [Act.put, List.setIfInBounds_toArray, List.set_cons_zero, List.set_cons_succ]
  refine wpAnyH_take (i := 1) (oi := { dst := some 31, op := Op.load 26 (Operand.tmp 30), type := 26, pos := _, after := #[{ on := 0, ground := Ground.data }], guard := none }) (v := (.slice (some ⟨z2, 0, none⟩) D.nt D.nt)) rfl (by kernel_rfl) (by kernel_rfl) (by kernel_rfl) (fun _ _ _ h => h) (Or.inl ⟨by rfl, fun w' hS => by (try dsimp only at hS); go_simp⟩) (get5 HGR.out).2.2.2.1 ?_
  simp only [Act.put, List.setIfInBounds_toArray, List.set_cons_zero, List.set_cons_succ]
  refine wpAnyH_take (i := 3) (oi := { dst := some 33, op := Op.nilCheck (Operand.tmp 32), type := 0, pos := _, after := #[{ on := 2, ground := Ground.data }], guard := none }) (v := (.pointer (some ⟨z, 0, none⟩))) rfl (by kernel_rfl) (by kernel_rfl) (by kernel_rfl) (fun _ _ _ h => h) (Or.inl ⟨by rfl, fun w' hS => by (try dsimp only at hS); go_simp⟩) (get5 HGR.out).2.2.2.1 ?_
  simp only [Act.put, List.setIfInBounds_toArray, List.set_cons_zero, List.set_cons_succ]
  refine wpAnyH_take (i := 4) (oi := { dst := some 34, op := Op.fieldAddr 148 (Operand.tmp 33) 3, type := 0, pos := _, after := #[{ on := 3, ground := Ground.data }], guard := none }) (v := (.pointer (some ⟨z, 10, none⟩))) rfl (by kernel_rfl) (by kernel_rfl) (by kernel_rfl) (fun _ _ _ h => h) (Or.inl ⟨by rfl, fun w' hS => by (try dsimp only at hS); go_simp⟩) (get5 HGR.out).2.2.2.1 ?_
  simp only [Act.put, List.setIfInBounds_toArray, List.set_cons_zero, List.set_cons_succ]
  refine wpAnyH_take (i := 5) (oi := { dst := some 35, op := Op.slice 146 (Operand.tmp 34) none none none, type := 26, pos := _, after := #[{ on := 4, ground := Ground.data }], guard := none }) (v := (.slice (some ⟨z, 10, none⟩) 20 20)) rfl (by kernel_rfl) (by kernel_rfl) (by kernel_rfl) (fun _ _ _ h => h) (Or.inl ⟨by rfl, fun w' hS => by (try dsimp only at hS); go_simp⟩) (get5 HGR.out).2.2.2.1 ?_
  simp only [Act.put, List.setIfInBounds_toArray, List.set_cons_zero, List.set_cons_succ]
  refine wpAnyH_ready (rs := [6]) (by kernel_rfl) (by simp) ?_
  refine AllReadyH.cons (o := { dst := some 36, op := Op.call { callee := Callee.builtin Builtin.copy, args := #[Operand.tmp 31, Operand.tmp 35], argTypes := #[26, 26] }, type := 3, pos := _, after := #[{ on := 1, ground := Ground.data }, { on := 5, ground := Ground.data }], guard := none }) rfl (fun K hK => ?_) AllReadyH.nil
  obtain ⟨x5, hrun, hrow, hmod, hsz⟩ := copy_front (dc := D.nt) (c := 20) (held_ints (HC.out.blw HBW.out)).2 (by omega) HN0.out
  refine step_copy_run rfl (.tmp 31) (.tmp 35) 26 26 rfl _ _ rfl rfl _ _ hrun ?_
  clear hrun
  have hd := HD.out
  replace HGR : Hid (Row x5 zg 5 (fun i => if i = 0 then .int .i64 D.at_ else if i = 1 then .int .i64 D.acc else if i = 2 then .slice (some ⟨z1, 0, none⟩) 8 8 else if i = 3 then .slice (some ⟨z2, 0, none⟩) D.nt D.nt else .bool D.d)) := HGR.out.mod hmod (by omega)
  replace HBW : Hid (Blw w1 x5) := Mod.blw HBW.out hmod (fun i hi => by omega)
  refine hK.out _ _ (get5 HGR.out).2.2.2.1 (fun hB => ?_)
  clear hK K hB
  try simp only [Act.put, List.setIfInBounds_toArray, List.set_cons_zero, List.set_cons_succ]
  refine wpAnyH_done (by kernel_rfl) ?_ _
  refine NoPanic.normal ?_
  have HF1 : Hid (Row x5 z1 8 (fun i => .int .i64 (D.c i))) := HR1.out.mod hmod (by omega)
  have HF2 : Hid (Row x5 z2 D.nt (fun i => .int .i64 (D.t i))) := hrow.congr (fun i hi => by unfold tz; rw [if_pos hi])
  have HRZ : Hid (Row x5 w.heap.size 5 (fun i => if i = 0 then .int .i64 0 else if i = 1 then .int .i64 0 else if i = 2 then .slice none 0 0 else if i = 3 then .slice none 0 0 else .bool false)) := HR0.out.blw HBW.out
  clear hrow hmod hsz HR1 HN0
  obtain ⟨p0, p1, p2, p3, p4⟩ := get5 HGR.out
  obtain ⟨t0, t1, t2, t3, t4⟩ := get5 HRZ.out
  have f0 := HRZ.out.frozen 0
  have f1 := HRZ.out.frozen 1
  have f2 := HRZ.out.frozen 2
  have f3 := HRZ.out.frozen 3
  have f4 := HRZ.out.frozen 4
  clear HGR HRZ hd
  go_wp2
  refine bodyPost_ret (v := GV.val ⟨some ⟨z1, 0, none⟩, some ⟨z2, 0, none⟩, 8, D.nt⟩ D) (by simp [results, Try.results115, go_sem, t0, t1, t2, t3, t4, HNC.out]) rfl ?_
  have hd := HD.out
  have hs := HSZ.out
  have m1 := set5_modG x5 w.heap.size (.int .i64 D.at_) (.int .i64 D.acc) (.slice (some ⟨z1, 0, none⟩) 8 8) (.slice (some ⟨z2, 0, none⟩) D.nt D.nt) (.bool D.d) (X := fun x => x = w.heap.size) rfl
  have q1 := HF1.out.lt
  have q2 := HF2.out.lt
  have q3 := m1.size
  exact ⟨_, rfl, GOwn.two (by have := HNC.out; omega) (by omega) (by rw [HNC.out]; exact HF1.out.mod m1 (by omega)) (HF2.out.mod m1 (by omega)) ⟨by omega, by omega⟩ ⟨by omega, by omega⟩ (by omega) _ _, Mod.blw (HB1.out.trans HBW.out) m1 (fun i hi => by omega)⟩
set_option maxRecDepth 10000 in
set_option maxHeartbeats 6400000 in
theorem giveOut1_any (z : Nat) (D : GD) (w : World) (hg : D.Good) (h : Cells w z 1 32 (hc D)) :
    Calls Try.prog 115 #[.pointer (some ⟨z, 1, none⟩)] w fun e w' => ∃ v : GV, e = .returned (v.val D) ∧ GOwn (fun x => w.heap.size ≤ x ∧ x < w'.heap.size) w' v D ∧ Blw w w' := by
  have four : ∀ {w' : World}, Cells w' z 1 32 (hc D) → w'.cell? ⟨z, 1, none⟩ = some (.int .i64 D.at_) ∧ w'.cell? ⟨z, 2, none⟩ = some (.int .i64 D.acc) ∧ w'.cell? ⟨z, 31, none⟩ = some (.int .i64 (D.nt : Int)) ∧ w'.cell? ⟨z, 32, none⟩ = some (.bool D.d) := fun hh => ⟨(hh 0 (by omega)).1, (hh 1 (by omega)).1, (hh 30 (by omega)).1, (hh 31 (by omega)).1⟩
  have hn20 := hg.nt
  have HNC : Hid (D.nc = 8) := hg.nc
  have HB1 : Hid (Blw w (w.alloc (.cells #[.int .i64 0, .int .i64 0, .slice none 0 0, .slice none 0 0, .bool false] 61))) := (Blw.refl _).alloc _
  have HC : Hid (Cells (w.alloc (.cells #[.int .i64 0, .int .i64 0, .slice none 0 0, .slice none 0 0, .bool false] 61)) z 1 32 (hc D)) := h.blw HB1.out
  have HR0 : Hid (Row (w.alloc (.cells #[.int .i64 0, .int .i64 0, .slice none 0 0, .slice none 0 0, .bool false] 61)) w.heap.size 5 (fun i => if i = 0 then .int .i64 0 else if i = 1 then .int .i64 0 else if i = 2 then .slice none 0 0 else if i = 3 then .slice none 0 0 else .bool false)) := row5 w _ _ _ _ _ 61
  have HSZ : Hid ((w.alloc (.cells #[.int .i64 0, .int .i64 0, .slice none 0 0, .slice none 0 0, .bool false] 61)).heap.size = w.heap.size + 1) := by show _ = _; simp
  clear h hg
  go_enter Try.func115, Try.ntmps115
  go_upto_region 1 with fail
  generalize w.alloc (.cells #[.int .i64 0, .int .i64 0, .slice none 0 0, .slice none 0 0, .bool false] 61) = w1 at *
  go_cut [3] from 3 to 22 (fun c3 wx => GoRel w1 D c3 wx)
  case first =>
    have HBW : Hid (Blw w1 w1.drew) := (Blw.refl _).drew
    refine wp_region_noPanic ?_
    refine wp_region_held_drew (S := fun w' => w'.cell? ⟨z, 1, none⟩ = some (.int .i64 D.at_) ∧ w'.cell? ⟨z, 2, none⟩ = some (.int .i64 D.acc) ∧ w'.cell? ⟨z, 31, none⟩ = some (.int .i64 (D.nt : Int)) ∧ w'.cell? ⟨z, 32, none⟩ = some (.bool D.d)) (by kernel_rfl) (four (HC.out.blw HBW.out)) (fun hB => ?_)
    clear hB
    generalize w1.drew = wd at *
    refine wpAnyH_take (i := 0) (oi := { dst := some 4, op := Op.move (Operand.tmp 0), type := 209, pos := _, after := #[], guard := none }) (v := (.pointer (some ⟨z, 1, none⟩))) rfl (by kernel_rfl) (by kernel_rfl) (by kernel_rfl) (fun _ _ _ h => h) (Or.inl ⟨by rfl, fun w' hS => by (try dsimp only at hS); go_simp⟩) (four (HC.out.blw HBW.out)) ?_
    simp only [Act.put, List.setIfInBounds_toArray, List.set_cons_zero, List.set_cons_succ]
    refine wpAnyH_take (i := 4) (oi := { dst := some 8, op := Op.move (Operand.tmp 0), type := 209, pos := _, after := #[], guard := none }) (v := (.pointer (some ⟨z, 1, none⟩))) rfl (by kernel_rfl) (by kernel_rfl) (by kernel_rfl) (fun _ _ _ h => h) (Or.inl ⟨by rfl, fun w' hS => by (try dsimp only at hS); go_simp⟩) (four (HC.out.blw HBW.out)) ?_
    simp only [Act.put, List.setIfInBounds_toArray, List.set_cons_zero, List.set_cons_succ]
    refine wpAnyH_take (i := 9) (oi := { dst := some 13, op := Op.move (Operand.tmp 0), type := 209, pos := _, after := #[], guard := none }) (v := (.pointer (some ⟨z, 1, none⟩))) rfl (by kernel_rfl) (by kernel_rfl) (by kernel_rfl) (fun _ _ _ h => h) (Or.inl ⟨by rfl, fun w' hS => by (try dsimp only at hS); go_simp⟩) (four (HC.out.blw HBW.out)) ?_
    simp only [Act.put, List.setIfInBounds_toArray, List.set_cons_zero, List.set_cons_succ]
    refine wpAnyH_take (i := 14) (oi := { dst := some 18, op := Op.move (Operand.tmp 0), type := 209, pos := _, after := #[], guard := none }) (v := (.pointer (some ⟨z, 1, none⟩))) rfl (by kernel_rfl) (by kernel_rfl) (by kernel_rfl) (fun _ _ _ h => h) (Or.inl ⟨by rfl, fun w' hS => by (try dsimp only at hS); go_simp⟩) (four (HC.out.blw HBW.out)) ?_
    simp only [Act.put, List.setIfInBounds_toArray, List.set_cons_zero, List.set_cons_succ]
    refine wpAnyH_take (i := 1) (oi := { dst := some 5, op := Op.nilCheck (Operand.tmp 4), type := 0, pos := _, after := #[{ on := 0, ground := Ground.data }], guard := none }) (v := (.pointer (some ⟨z, 1, none⟩))) rfl (by kernel_rfl) (by kernel_rfl) (by kernel_rfl) (fun _ _ _ h => h) (Or.inl ⟨by rfl, fun w' hS => by (try dsimp only at hS); go_simp⟩) (four (HC.out.blw HBW.out)) ?_
    simp only [Act.put, List.setIfInBounds_toArray, List.set_cons_zero, List.set_cons_succ]
    refine wpAnyH_take (i := 5) (oi := { dst := some 9, op := Op.nilCheck (Operand.tmp 8), type := 0, pos := _, after := #[{ on := 4, ground := Ground.data }], guard := none }) (v := (.pointer (some ⟨z, 1, none⟩))) rfl (by kernel_rfl) (by kernel_rfl) (by kernel_rfl) (fun _ _ _ h => h) (Or.inl ⟨by rfl, fun w' hS => by (try dsimp only at hS); go_simp⟩) (four (HC.out.blw HBW.out)) ?_
    simp only [Act.put, List.setIfInBounds_toArray, List.set_cons_zero, List.set_cons_succ]
    refine wpAnyH_take (i := 10) (oi := { dst := some 14, op := Op.nilCheck (Operand.tmp 13), type := 0, pos := _, after := #[{ on := 9, ground := Ground.data }], guard := none }) (v := (.pointer (some ⟨z, 1, none⟩))) rfl (by kernel_rfl) (by kernel_rfl) (by kernel_rfl) (fun _ _ _ h => h) (Or.inl ⟨by rfl, fun w' hS => by (try dsimp only at hS); go_simp⟩) (four (HC.out.blw HBW.out)) ?_
    simp only [Act.put, List.setIfInBounds_toArray, List.set_cons_zero, List.set_cons_succ]
    refine wpAnyH_take (i := 15) (oi := { dst := some 19, op := Op.nilCheck (Operand.tmp 18), type := 0, pos := _, after := #[{ on := 14, ground := Ground.data }], guard := none }) (v := (.pointer (some ⟨z, 1, none⟩))) rfl (by kernel_rfl) (by kernel_rfl) (by kernel_rfl) (fun _ _ _ h => h) (Or.inl ⟨by rfl, fun w' hS => by (try dsimp only at hS); go_simp⟩) (four (HC.out.blw HBW.out)) ?_
    simp only [Act.put, List.setIfInBounds_toArray, List.set_cons_zero, List.set_cons_succ]
    refine wpAnyH_take (i := 2) (oi := { dst := some 6, op := Op.fieldAddr 148 (Operand.tmp 5) 0, type := 0, pos := _, after := #[{ on := 1, ground := Ground.data }], guard := none }) (v := (.pointer (some ⟨z, 1, none⟩))) rfl (by kernel_rfl) (by kernel_rfl) (by kernel_rfl) (fun _ _ _ h => h) (Or.inl ⟨by rfl, fun w' hS => by (try dsimp only at hS); go_simp⟩) (four (HC.out.blw HBW.out)) ?_
    simp only [Act.put, List.setIfInBounds_toArray, List.set_cons_zero, List.set_cons_succ]
    refine wpAnyH_take (i := 6) (oi := { dst := some 10, op := Op.fieldAddr 148 (Operand.tmp 9) 1, type := 0, pos := _, after := #[{ on := 5, ground := Ground.data }], guard := none }) (v := (.pointer (some ⟨z, 2, none⟩))) rfl (by kernel_rfl) (by kernel_rfl) (by kernel_rfl) (fun _ _ _ h => h) (Or.inl ⟨by rfl, fun w' hS => by (try dsimp only at hS); go_simp⟩) (four (HC.out.blw HBW.out)) ?_
    simp only [Act.put, List.setIfInBounds_toArray, List.set_cons_zero, List.set_cons_succ]
    refine wpAnyH_take (i := 11) (oi := { dst := some 15, op := Op.fieldAddr 148 (Operand.tmp 14) 4, type := 0, pos := _, after := #[{ on := 10, ground := Ground.data }], guard := none }) (v := (.pointer (some ⟨z, 31, none⟩))) rfl (by kernel_rfl) (by kernel_rfl) (by kernel_rfl) (fun _ _ _ h => h) (Or.inl ⟨by rfl, fun w' hS => by (try dsimp only at hS); go_simp⟩) (four (HC.out.blw HBW.out)) ?_
    simp only [Act.put, List.setIfInBounds_toArray, List.set_cons_zero, List.set_cons_succ]
    refine wpAnyH_take (i := 16) (oi := { dst := some 20, op := Op.fieldAddr 148 (Operand.tmp 19) 5, type := 0, pos := _, after := #[{ on := 15, ground := Ground.data }], guard := none }) (v := (.pointer (some ⟨z, 32, none⟩))) rfl (by kernel_rfl) (by kernel_rfl) (by kernel_rfl) (fun _ _ _ h => h) (Or.inl ⟨by rfl, fun w' hS => by (try dsimp only at hS); go_simp⟩) (four (HC.out.blw HBW.out)) ?_
    simp only [Act.put, List.setIfInBounds_toArray, List.set_cons_zero, List.set_cons_succ]
    refine wpAnyH_take (i := 3) (oi := { dst := some 7, op := Op.load 3 (Operand.tmp 6), type := 3, pos := _, after := #[{ on := 2, ground := Ground.data }], guard := none }) (v := (.int .i64 D.at_)) rfl (by kernel_rfl) (by kernel_rfl) (by kernel_rfl) (fun _ _ _ h => h) (Or.inl ⟨by rfl, fun w' hS => by (try dsimp only at hS); go_simp⟩) (four (HC.out.blw HBW.out)) ?_
    simp only [Act.put, List.setIfInBounds_toArray, List.set_cons_zero, List.set_cons_succ]
    refine wpAnyH_take (i := 7) (oi := { dst := some 11, op := Op.load 3 (Operand.tmp 10), type := 3, pos := _, after := #[{ on := 6, ground := Ground.data }], guard := none }) (v := (.int .i64 D.acc)) rfl (by kernel_rfl) (by kernel_rfl) (by kernel_rfl) (fun _ _ _ h => h) (Or.inl ⟨by rfl, fun w' hS => by (try dsimp only at hS); go_simp⟩) (four (HC.out.blw HBW.out)) ?_
    simp only [Act.put, List.setIfInBounds_toArray, List.set_cons_zero, List.set_cons_succ]
    refine wpAnyH_take (i := 12) (oi := { dst := some 16, op := Op.load 3 (Operand.tmp 15), type := 3, pos := _, after := #[{ on := 11, ground := Ground.data }], guard := none }) (v := (.int .i64 (D.nt : Int))) rfl (by kernel_rfl) (by kernel_rfl) (by kernel_rfl) (fun _ _ _ h => h) (Or.inl ⟨by rfl, fun w' hS => by (try dsimp only at hS); go_simp⟩) (four (HC.out.blw HBW.out)) ?_
    simp only [Act.put, List.setIfInBounds_toArray, List.set_cons_zero, List.set_cons_succ]
    refine wpAnyH_take (i := 17) (oi := { dst := some 21, op := Op.load 4 (Operand.tmp 20), type := 4, pos := _, after := #[{ on := 16, ground := Ground.data }], guard := none }) (v := (.bool D.d)) rfl (by kernel_rfl) (by kernel_rfl) (by kernel_rfl) (fun _ _ _ h => h) (Or.inl ⟨by rfl, fun w' hS => by (try dsimp only at hS); go_simp⟩) (four (HC.out.blw HBW.out)) ?_
    simp only [Act.put, List.setIfInBounds_toArray, List.set_cons_zero, List.set_cons_succ]
    refine wpAnyH_ready (rs := [8, 13, 19]) (by kernel_rfl) (by simp) ?_
    refine AllReadyH.cons (o := { dst := some 12, op := Op.makeSlice 26 (Operand.const (Value.int IntKind.i64 8)) (Operand.const (Value.int IntKind.i64 8)), type := 26, pos := _, after := #[], guard := none }) rfl (fun K hK => ?_) (AllReadyH.cons (o := { dst := some 17, op := Op.makeSlice 26 (Operand.tmp 16) (Operand.tmp 16), type := 26, pos := _, after := #[{ on := 12, ground := Ground.data }, { on := 12, ground := Ground.data }], guard := none }) rfl (fun K hK => ?_) (AllReadyH.cons (o := { dst := some 3, op := Op.alloc 61, type := 0, pos := _, after := #[], guard := none }) rfl (fun K hK => ?_) AllReadyH.nil))
    · have hmk : (Instr.makeSlice 26 (.int .i64 8) (.int .i64 8)).run Try.prog wd = .ok (.slice (some ⟨wd.heap.size, 0, none⟩) 8 8) (wd.alloc (.cells (madeCells #[.int .i64 0] 8) 3)) := mkInts 8 (by omega) wd
      go_simp
      clear hmk
      have hb : Blw wd (wd.alloc (.cells (madeCells #[.int .i64 0] 8) 3)) := (Blw.refl _).alloc _
      have R8 : Hid (Row (wd.alloc (.cells (madeCells #[.int .i64 0] 8) 3)) wd.heap.size 8 (fun _ => .int .i64 0)) := Row.made wd (.int .i64 0) 8 3
      have HZ8 : Hid (w1.heap.size ≤ wd.heap.size ∧ wd.heap.size < (wd.alloc (.cells (madeCells #[.int .i64 0] 8) 3)).heap.size) := ⟨HBW.out.size, by simp⟩
      generalize wd.alloc (.cells (madeCells #[.int .i64 0] 8) 3) = x1 at *
      replace HBW : Hid (Blw w1 x1) := HBW.out.trans hb
      have HY0 : Hid (wd.heap.size ≤ x1.heap.size) := hb.size
      clear hb
      refine hK.out _ _ (four (HC.out.blw HBW.out)) (fun hB => ?_)
      clear hK K hB
      try simp only [Act.put, List.setIfInBounds_toArray, List.set_cons_zero, List.set_cons_succ]
      refine wpAnyH_ready (rs := [13, 19]) (by kernel_rfl) (by simp) ?_
      refine AllReadyH.cons (o := { dst := some 17, op := Op.makeSlice 26 (Operand.tmp 16) (Operand.tmp 16), type := 26, pos := _, after := #[{ on := 12, ground := Ground.data }, { on := 12, ground := Ground.data }], guard := none }) rfl (fun K hK => ?_) (AllReadyH.cons (o := { dst := some 3, op := Op.alloc 61, type := 0, pos := _, after := #[], guard := none }) rfl (fun K hK => ?_) AllReadyH.nil)
      · have hmk := mkInts D.nt (by omega) x1
        go_simp
        clear hmk
        have hb : Blw x1 (x1.alloc (.cells (madeCells #[.int .i64 0] D.nt) 3)) := (Blw.refl _).alloc _
        have RN : Hid (Row (x1.alloc (.cells (madeCells #[.int .i64 0] D.nt) 3)) x1.heap.size D.nt (fun _ => .int .i64 0)) := Row.made x1 (.int .i64 0) D.nt 3
        have HZ13 : Hid (w1.heap.size ≤ x1.heap.size ∧ x1.heap.size < (x1.alloc (.cells (madeCells #[.int .i64 0] D.nt) 3)).heap.size) := ⟨HBW.out.size, by simp⟩
        generalize x1.alloc (.cells (madeCells #[.int .i64 0] D.nt) 3) = x2 at *
        replace HBW : Hid (Blw w1 x2) := HBW.out.trans hb
        replace R8 : Hid (Row x2 wd.heap.size 8 (fun _ => .int .i64 0)) := R8.out.blw hb
        have HY1 : Hid (x1.heap.size ≤ x2.heap.size) := hb.size
        clear hb
        refine hK.out _ _ (four (HC.out.blw HBW.out)) (fun hB => ?_)
        clear hK K hB
        try simp only [Act.put, List.setIfInBounds_toArray, List.set_cons_zero, List.set_cons_succ]
        refine wpAnyH_take (i := 18) (oi := { dst := some 22, op := Op.build 61 #[(0, Operand.tmp 7), (1, Operand.tmp 11), (2, Operand.tmp 12), (3, Operand.tmp 17), (4, Operand.tmp 21)], type := 61, pos := _, after := #[{ on := 3, ground := Ground.data }, { on := 7, ground := Ground.data }, { on := 8, ground := Ground.data }, { on := 13, ground := Ground.data }, { on := 17, ground := Ground.data }], guard := none }) (v := (.agg #[.int .i64 D.at_, .int .i64 D.acc, .slice (some ⟨wd.heap.size, 0, none⟩) 8 8, .slice (some ⟨x1.heap.size, 0, none⟩) D.nt D.nt, .bool D.d])) rfl (by kernel_rfl) (by kernel_rfl) (by kernel_rfl) (fun _ _ _ h => h) (Or.inl ⟨by rfl, fun w' hS => by (try dsimp only at hS); go_simp⟩) (four (HC.out.blw HBW.out)) ?_
        simp only [Act.put, List.setIfInBounds_toArray, List.set_cons_zero, List.set_cons_succ]
        refine wpAnyH_ready (rs := [19]) (by kernel_rfl) (by simp) ?_
        refine AllReadyH.cons (o := { dst := some 3, op := Op.alloc 61, type := 0, pos := _, after := #[], guard := none }) rfl (fun K hK => ?_) AllReadyH.nil
        go_simp
        have hb : Blw x2 (x2.alloc (.cells #[.int .i64 0, .int .i64 0, .slice none 0 0, .slice none 0 0, .bool false] 61)) := (Blw.refl _).alloc _
        have RG : Hid (Row (x2.alloc (.cells #[.int .i64 0, .int .i64 0, .slice none 0 0, .slice none 0 0, .bool false] 61)) x2.heap.size 5 (fun i => if i = 0 then .int .i64 0 else if i = 1 then .int .i64 0 else if i = 2 then .slice none 0 0 else if i = 3 then .slice none 0 0 else .bool false)) := row5 x2 (.int .i64 0) (.int .i64 0) (.slice none 0 0) (.slice none 0 0) (.bool false) 61
        have HZ19 : Hid (w1.heap.size ≤ x2.heap.size ∧ x2.heap.size < (x2.alloc (.cells #[.int .i64 0, .int .i64 0, .slice none 0 0, .slice none 0 0, .bool false] 61)).heap.size) := ⟨HBW.out.size, by simp⟩
        generalize x2.alloc (.cells #[.int .i64 0, .int .i64 0, .slice none 0 0, .slice none 0 0, .bool false] 61) = x3 at *
        replace HBW : Hid (Blw w1 x3) := HBW.out.trans hb
        replace R8 : Hid (Row x3 wd.heap.size 8 (fun _ => .int .i64 0)) := R8.out.blw hb
        replace RN : Hid (Row x3 x1.heap.size D.nt (fun _ => .int .i64 0)) := RN.out.blw hb
        have HY2 : Hid (x2.heap.size ≤ x3.heap.size) := hb.size
        clear hb
        refine hK.out _ _ (four (HC.out.blw HBW.out)) (fun hB => ?_)
        clear hK K hB
        try simp only [Act.put, List.setIfInBounds_toArray, List.set_cons_zero, List.set_cons_succ]
        refine wpAnyH_ready (rs := [20]) (by kernel_rfl) (by simp) ?_
        refine AllReadyH.cons (o := { dst := none, op := Op.store 61 (Operand.tmp 3) (Operand.tmp 22), type := 0, pos := _, after := #[{ on := 19, ground := Ground.data }, { on := 18, ground := Ground.data }, { on := 0, ground := Ground.phase }, { on := 1, ground := Ground.phase }, { on := 2, ground := Ground.phase }, { on := 3, ground := Ground.phase }, { on := 4, ground := Ground.phase }, { on := 5, ground := Ground.phase }, { on := 6, ground := Ground.phase }, { on := 7, ground := Ground.phase }, { on := 8, ground := Ground.phase }, { on := 9, ground := Ground.phase }, { on := 10, ground := Ground.phase }, { on := 11, ground := Ground.phase }, { on := 12, ground := Ground.phase }, { on := 13, ground := Ground.phase }, { on := 14, ground := Ground.phase }, { on := 15, ground := Ground.phase }, { on := 16, ground := Ground.phase }, { on := 17, ground := Ground.phase }, { on := 18, ground := Ground.phase }, { on := 19, ground := Ground.phase }], guard := none }) rfl (fun K hK => ?_) AllReadyH.nil
        obtain ⟨t0, t1, t2, t3, t4⟩ := get5 RG.out
        have f0 := RG.out.frozen 0
        have f1 := RG.out.frozen 1
        have f2 := RG.out.frozen 2
        have f3 := RG.out.frozen 3
        have f4 := RG.out.frozen 4
        have o8 := HZ8.out
        have o13 := HZ13.out
        have o19 := HZ19.out
        have y0 := HY0.out
        have y1 := HY1.out
        have y2 := HY2.out
        have m1 := set5_modG x3 x2.heap.size (.int .i64 D.at_) (.int .i64 D.acc) (.slice (some ⟨wd.heap.size, 0, none⟩) 8 8) (.slice (some ⟨x1.heap.size, 0, none⟩) D.nt D.nt) (.bool D.d) (X := fun x => x = x2.heap.size) rfl
        have FIN : Hid (GoRel w1 D (.pointer (some ⟨x2.heap.size, 0, none⟩)) (((((x3.setCell ⟨x2.heap.size, 0, none⟩ (.int .i64 D.at_)).setCell ⟨x2.heap.size, 1, none⟩ (.int .i64 D.acc)).setCell ⟨x2.heap.size, 2, none⟩ (.slice (some ⟨wd.heap.size, 0, none⟩) 8 8)).setCell ⟨x2.heap.size, 3, none⟩ (.slice (some ⟨x1.heap.size, 0, none⟩) D.nt D.nt)).setCell ⟨x2.heap.size, 4, none⟩ (.bool D.d))) := ⟨x2.heap.size, wd.heap.size, x1.heap.size, rfl, set5_all RG.out _ _ _ _ _, R8.out.mod m1 (by omega), RN.out.mod m1 (by omega), ⟨by omega, by omega, by omega, by omega, by omega, by omega⟩, Mod.blw HBW.out m1 (fun i hi => by omega)⟩
        replace HBW : Hid (Blw w1 (((((x3.setCell ⟨x2.heap.size, 0, none⟩ (.int .i64 D.at_)).setCell ⟨x2.heap.size, 1, none⟩ (.int .i64 D.acc)).setCell ⟨x2.heap.size, 2, none⟩ (.slice (some ⟨wd.heap.size, 0, none⟩) 8 8)).setCell ⟨x2.heap.size, 3, none⟩ (.slice (some ⟨x1.heap.size, 0, none⟩) D.nt D.nt)).setCell ⟨x2.heap.size, 4, none⟩ (.bool D.d))) := Mod.blw HBW.out m1 (fun i hi => by omega)
        clear m1 o8 o13 o19 y0 y1 y2 R8 RN RG
        go_simp
        refine hK.out _ _ (four (HC.out.blw HBW.out)) (fun hB => ?_)
        clear hK K hB
        try simp only [Act.put, List.setIfInBounds_toArray, List.set_cons_zero, List.set_cons_succ]
        clear t0 t1 t2 t3 t4 f0 f1 f2 f3 f4
        refine wpAnyH_done (by kernel_rfl) ?_ _
        refine NoPanic.normal ?_
        go_wp2_with fail
        go_meet
        exact FIN.out
      · go_simp
        have hb : Blw x1 (x1.alloc (.cells #[.int .i64 0, .int .i64 0, .slice none 0 0, .slice none 0 0, .bool false] 61)) := (Blw.refl _).alloc _
        have RG : Hid (Row (x1.alloc (.cells #[.int .i64 0, .int .i64 0, .slice none 0 0, .slice none 0 0, .bool false] 61)) x1.heap.size 5 (fun i => if i = 0 then .int .i64 0 else if i = 1 then .int .i64 0 else if i = 2 then .slice none 0 0 else if i = 3 then .slice none 0 0 else .bool false)) := row5 x1 (.int .i64 0) (.int .i64 0) (.slice none 0 0) (.slice none 0 0) (.bool false) 61
        have HZ19 : Hid (w1.heap.size ≤ x1.heap.size ∧ x1.heap.size < (x1.alloc (.cells #[.int .i64 0, .int .i64 0, .slice none 0 0, .slice none 0 0, .bool false] 61)).heap.size) := ⟨HBW.out.size, by simp⟩
        generalize x1.alloc (.cells #[.int .i64 0, .int .i64 0, .slice none 0 0, .slice none 0 0, .bool false] 61) = x2 at *
        replace HBW : Hid (Blw w1 x2) := HBW.out.trans hb
        replace R8 : Hid (Row x2 wd.heap.size 8 (fun _ => .int .i64 0)) := R8.out.blw hb
        have HY1 : Hid (x1.heap.size ≤ x2.heap.size) := hb.size
        clear hb
        refine hK.out _ _ (four (HC.out.blw HBW.out)) (fun hB => ?_)
        clear hK K hB
        try simp only [Act.put, List.setIfInBounds_toArray, List.set_cons_zero, List.set_cons_succ]
        refine wpAnyH_ready (rs := [13]) (by kernel_rfl) (by simp) ?_
        refine AllReadyH.cons (o := { dst := some 17, op := Op.makeSlice 26 (Operand.tmp 16) (Operand.tmp 16), type := 26, pos := _, after := #[{ on := 12, ground := Ground.data }, { on := 12, ground := Ground.data }], guard := none }) rfl (fun K hK => ?_) AllReadyH.nil
        have hmk := mkInts D.nt (by omega) x2
        go_simp
        clear hmk
        have hb : Blw x2 (x2.alloc (.cells (madeCells #[.int .i64 0] D.nt) 3)) := (Blw.refl _).alloc _
        have RN : Hid (Row (x2.alloc (.cells (madeCells #[.int .i64 0] D.nt) 3)) x2.heap.size D.nt (fun _ => .int .i64 0)) := Row.made x2 (.int .i64 0) D.nt 3
        have HZ13 : Hid (w1.heap.size ≤ x2.heap.size ∧ x2.heap.size < (x2.alloc (.cells (madeCells #[.int .i64 0] D.nt) 3)).heap.size) := ⟨HBW.out.size, by simp⟩
        generalize x2.alloc (.cells (madeCells #[.int .i64 0] D.nt) 3) = x3 at *
        replace HBW : Hid (Blw w1 x3) := HBW.out.trans hb
        replace R8 : Hid (Row x3 wd.heap.size 8 (fun _ => .int .i64 0)) := R8.out.blw hb
        replace RG : Hid (Row x3 x1.heap.size 5 (fun i => if i = 0 then .int .i64 0 else if i = 1 then .int .i64 0 else if i = 2 then .slice none 0 0 else if i = 3 then .slice none 0 0 else .bool false)) := RG.out.blw hb
        have HY2 : Hid (x2.heap.size ≤ x3.heap.size) := hb.size
        clear hb
        refine hK.out _ _ (four (HC.out.blw HBW.out)) (fun hB => ?_)
        clear hK K hB
        try simp only [Act.put, List.setIfInBounds_toArray, List.set_cons_zero, List.set_cons_succ]
        refine wpAnyH_take (i := 18) (oi := { dst := some 22, op := Op.build 61 #[(0, Operand.tmp 7), (1, Operand.tmp 11), (2, Operand.tmp 12), (3, Operand.tmp 17), (4, Operand.tmp 21)], type := 61, pos := _, after := #[{ on := 3, ground := Ground.data }, { on := 7, ground := Ground.data }, { on := 8, ground := Ground.data }, { on := 13, ground := Ground.data }, { on := 17, ground := Ground.data }], guard := none }) (v := (.agg #[.int .i64 D.at_, .int .i64 D.acc, .slice (some ⟨wd.heap.size, 0, none⟩) 8 8, .slice (some ⟨x2.heap.size, 0, none⟩) D.nt D.nt, .bool D.d])) rfl (by kernel_rfl) (by kernel_rfl) (by kernel_rfl) (fun _ _ _ h => h) (Or.inl ⟨by rfl, fun w' hS => by (try dsimp only at hS); go_simp⟩) (four (HC.out.blw HBW.out)) ?_
        simp only [Act.put, List.setIfInBounds_toArray, List.set_cons_zero, List.set_cons_succ]
        refine wpAnyH_ready (rs := [20]) (by kernel_rfl) (by simp) ?_
        refine AllReadyH.cons (o := { dst := none, op := Op.store 61 (Operand.tmp 3) (Operand.tmp 22), type := 0, pos := _, after := #[{ on := 19, ground := Ground.data }, { on := 18, ground := Ground.data }, { on := 0, ground := Ground.phase }, { on := 1, ground := Ground.phase }, { on := 2, ground := Ground.phase }, { on := 3, ground := Ground.phase }, { on := 4, ground := Ground.phase }, { on := 5, ground := Ground.phase }, { on := 6, ground := Ground.phase }, { on := 7, ground := Ground.phase }, { on := 8, ground := Ground.phase }, { on := 9, ground := Ground.phase }, { on := 10, ground := Ground.phase }, { on := 11, ground := Ground.phase }, { on := 12, ground := Ground.phase }, { on := 13, ground := Ground.phase }, { on := 14, ground := Ground.phase }, { on := 15, ground := Ground.phase }, { on := 16, ground := Ground.phase }, { on := 17, ground := Ground.phase }, { on := 18, ground := Ground.phase }, { on := 19, ground := Ground.phase }], guard := none }) rfl (fun K hK => ?_) AllReadyH.nil
        obtain ⟨t0, t1, t2, t3, t4⟩ := get5 RG.out
        have f0 := RG.out.frozen 0
        have f1 := RG.out.frozen 1
        have f2 := RG.out.frozen 2
        have f3 := RG.out.frozen 3
        have f4 := RG.out.frozen 4
        have o8 := HZ8.out
        have o13 := HZ13.out
        have o19 := HZ19.out
        have y0 := HY0.out
        have y1 := HY1.out
        have y2 := HY2.out
        have m1 := set5_modG x3 x1.heap.size (.int .i64 D.at_) (.int .i64 D.acc) (.slice (some ⟨wd.heap.size, 0, none⟩) 8 8) (.slice (some ⟨x2.heap.size, 0, none⟩) D.nt D.nt) (.bool D.d) (X := fun x => x = x1.heap.size) rfl
        have FIN : Hid (GoRel w1 D (.pointer (some ⟨x1.heap.size, 0, none⟩)) (((((x3.setCell ⟨x1.heap.size, 0, none⟩ (.int .i64 D.at_)).setCell ⟨x1.heap.size, 1, none⟩ (.int .i64 D.acc)).setCell ⟨x1.heap.size, 2, none⟩ (.slice (some ⟨wd.heap.size, 0, none⟩) 8 8)).setCell ⟨x1.heap.size, 3, none⟩ (.slice (some ⟨x2.heap.size, 0, none⟩) D.nt D.nt)).setCell ⟨x1.heap.size, 4, none⟩ (.bool D.d))) := ⟨x1.heap.size, wd.heap.size, x2.heap.size, rfl, set5_all RG.out _ _ _ _ _, R8.out.mod m1 (by omega), RN.out.mod m1 (by omega), ⟨by omega, by omega, by omega, by omega, by omega, by omega⟩, Mod.blw HBW.out m1 (fun i hi => by omega)⟩
        replace HBW : Hid (Blw w1 (((((x3.setCell ⟨x1.heap.size, 0, none⟩ (.int .i64 D.at_)).setCell ⟨x1.heap.size, 1, none⟩ (.int .i64 D.acc)).setCell ⟨x1.heap.size, 2, none⟩ (.slice (some ⟨wd.heap.size, 0, none⟩) 8 8)).setCell ⟨x1.heap.size, 3, none⟩ (.slice (some ⟨x2.heap.size, 0, none⟩) D.nt D.nt)).setCell ⟨x1.heap.size, 4, none⟩ (.bool D.d))) := Mod.blw HBW.out m1 (fun i hi => by omega)
        clear m1 o8 o13 o19 y0 y1 y2 R8 RN RG
        go_simp
        refine hK.out _ _ (four (HC.out.blw HBW.out)) (fun hB => ?_)
        clear hK K hB
        try simp only [Act.put, List.setIfInBounds_toArray, List.set_cons_zero, List.set_cons_succ]
        clear t0 t1 t2 t3 t4 f0 f1 f2 f3 f4
        refine wpAnyH_done (by kernel_rfl) ?_ _
        refine NoPanic.normal ?_
        go_wp2_with fail
        go_meet
        exact FIN.out
    · have hmk := mkInts D.nt (by omega) wd
      go_simp
      clear hmk
      have hb : Blw wd (wd.alloc (.cells (madeCells #[.int .i64 0] D.nt) 3)) := (Blw.refl _).alloc _
      have RN : Hid (Row (wd.alloc (.cells (madeCells #[.int .i64 0] D.nt) 3)) wd.heap.size D.nt (fun _ => .int .i64 0)) := Row.made wd (.int .i64 0) D.nt 3
      have HZ13 : Hid (w1.heap.size ≤ wd.heap.size ∧ wd.heap.size < (wd.alloc (.cells (madeCells #[.int .i64 0] D.nt) 3)).heap.size) := ⟨HBW.out.size, by simp⟩
      generalize wd.alloc (.cells (madeCells #[.int .i64 0] D.nt) 3) = x1 at *
      replace HBW : Hid (Blw w1 x1) := HBW.out.trans hb
      have HY0 : Hid (wd.heap.size ≤ x1.heap.size) := hb.size
      clear hb
      refine hK.out _ _ (four (HC.out.blw HBW.out)) (fun hB => ?_)
      clear hK K hB
      try simp only [Act.put, List.setIfInBounds_toArray, List.set_cons_zero, List.set_cons_succ]
      refine wpAnyH_ready (rs := [8, 19]) (by kernel_rfl) (by simp) ?_
      refine AllReadyH.cons (o := { dst := some 12, op := Op.makeSlice 26 (Operand.const (Value.int IntKind.i64 8)) (Operand.const (Value.int IntKind.i64 8)), type := 26, pos := _, after := #[], guard := none }) rfl (fun K hK => ?_) (AllReadyH.cons (o := { dst := some 3, op := Op.alloc 61, type := 0, pos := _, after := #[], guard := none }) rfl (fun K hK => ?_) AllReadyH.nil)
      · have hmk : (Instr.makeSlice 26 (.int .i64 8) (.int .i64 8)).run Try.prog x1 = .ok (.slice (some ⟨x1.heap.size, 0, none⟩) 8 8) (x1.alloc (.cells (madeCells #[.int .i64 0] 8) 3)) := mkInts 8 (by omega) x1
        go_simp
        clear hmk
        have hb : Blw x1 (x1.alloc (.cells (madeCells #[.int .i64 0] 8) 3)) := (Blw.refl _).alloc _
        have R8 : Hid (Row (x1.alloc (.cells (madeCells #[.int .i64 0] 8) 3)) x1.heap.size 8 (fun _ => .int .i64 0)) := Row.made x1 (.int .i64 0) 8 3
        have HZ8 : Hid (w1.heap.size ≤ x1.heap.size ∧ x1.heap.size < (x1.alloc (.cells (madeCells #[.int .i64 0] 8) 3)).heap.size) := ⟨HBW.out.size, by simp⟩
        generalize x1.alloc (.cells (madeCells #[.int .i64 0] 8) 3) = x2 at *
        replace HBW : Hid (Blw w1 x2) := HBW.out.trans hb
        replace RN : Hid (Row x2 wd.heap.size D.nt (fun _ => .int .i64 0)) := RN.out.blw hb
        have HY1 : Hid (x1.heap.size ≤ x2.heap.size) := hb.size
        clear hb
        refine hK.out _ _ (four (HC.out.blw HBW.out)) (fun hB => ?_)
        clear hK K hB
        try simp only [Act.put, List.setIfInBounds_toArray, List.set_cons_zero, List.set_cons_succ]
        refine wpAnyH_take (i := 18) (oi := { dst := some 22, op := Op.build 61 #[(0, Operand.tmp 7), (1, Operand.tmp 11), (2, Operand.tmp 12), (3, Operand.tmp 17), (4, Operand.tmp 21)], type := 61, pos := _, after := #[{ on := 3, ground := Ground.data }, { on := 7, ground := Ground.data }, { on := 8, ground := Ground.data }, { on := 13, ground := Ground.data }, { on := 17, ground := Ground.data }], guard := none }) (v := (.agg #[.int .i64 D.at_, .int .i64 D.acc, .slice (some ⟨x1.heap.size, 0, none⟩) 8 8, .slice (some ⟨wd.heap.size, 0, none⟩) D.nt D.nt, .bool D.d])) rfl (by kernel_rfl) (by kernel_rfl) (by kernel_rfl) (fun _ _ _ h => h) (Or.inl ⟨by rfl, fun w' hS => by (try dsimp only at hS); go_simp⟩) (four (HC.out.blw HBW.out)) ?_
        simp only [Act.put, List.setIfInBounds_toArray, List.set_cons_zero, List.set_cons_succ]
        refine wpAnyH_ready (rs := [19]) (by kernel_rfl) (by simp) ?_
        refine AllReadyH.cons (o := { dst := some 3, op := Op.alloc 61, type := 0, pos := _, after := #[], guard := none }) rfl (fun K hK => ?_) AllReadyH.nil
        go_simp
        have hb : Blw x2 (x2.alloc (.cells #[.int .i64 0, .int .i64 0, .slice none 0 0, .slice none 0 0, .bool false] 61)) := (Blw.refl _).alloc _
        have RG : Hid (Row (x2.alloc (.cells #[.int .i64 0, .int .i64 0, .slice none 0 0, .slice none 0 0, .bool false] 61)) x2.heap.size 5 (fun i => if i = 0 then .int .i64 0 else if i = 1 then .int .i64 0 else if i = 2 then .slice none 0 0 else if i = 3 then .slice none 0 0 else .bool false)) := row5 x2 (.int .i64 0) (.int .i64 0) (.slice none 0 0) (.slice none 0 0) (.bool false) 61
        have HZ19 : Hid (w1.heap.size ≤ x2.heap.size ∧ x2.heap.size < (x2.alloc (.cells #[.int .i64 0, .int .i64 0, .slice none 0 0, .slice none 0 0, .bool false] 61)).heap.size) := ⟨HBW.out.size, by simp⟩
        generalize x2.alloc (.cells #[.int .i64 0, .int .i64 0, .slice none 0 0, .slice none 0 0, .bool false] 61) = x3 at *
        replace HBW : Hid (Blw w1 x3) := HBW.out.trans hb
        replace RN : Hid (Row x3 wd.heap.size D.nt (fun _ => .int .i64 0)) := RN.out.blw hb
        replace R8 : Hid (Row x3 x1.heap.size 8 (fun _ => .int .i64 0)) := R8.out.blw hb
        have HY2 : Hid (x2.heap.size ≤ x3.heap.size) := hb.size
        clear hb
        refine hK.out _ _ (four (HC.out.blw HBW.out)) (fun hB => ?_)
        clear hK K hB
        try simp only [Act.put, List.setIfInBounds_toArray, List.set_cons_zero, List.set_cons_succ]
        refine wpAnyH_ready (rs := [20]) (by kernel_rfl) (by simp) ?_
        refine AllReadyH.cons (o := { dst := none, op := Op.store 61 (Operand.tmp 3) (Operand.tmp 22), type := 0, pos := _, after := #[{ on := 19, ground := Ground.data }, { on := 18, ground := Ground.data }, { on := 0, ground := Ground.phase }, { on := 1, ground := Ground.phase }, { on := 2, ground := Ground.phase }, { on := 3, ground := Ground.phase }, { on := 4, ground := Ground.phase }, { on := 5, ground := Ground.phase }, { on := 6, ground := Ground.phase }, { on := 7, ground := Ground.phase }, { on := 8, ground := Ground.phase }, { on := 9, ground := Ground.phase }, { on := 10, ground := Ground.phase }, { on := 11, ground := Ground.phase }, { on := 12, ground := Ground.phase }, { on := 13, ground := Ground.phase }, { on := 14, ground := Ground.phase }, { on := 15, ground := Ground.phase }, { on := 16, ground := Ground.phase }, { on := 17, ground := Ground.phase }, { on := 18, ground := Ground.phase }, { on := 19, ground := Ground.phase }], guard := none }) rfl (fun K hK => ?_) AllReadyH.nil
        obtain ⟨t0, t1, t2, t3, t4⟩ := get5 RG.out
        have f0 := RG.out.frozen 0
        have f1 := RG.out.frozen 1
        have f2 := RG.out.frozen 2
        have f3 := RG.out.frozen 3
        have f4 := RG.out.frozen 4
        have o8 := HZ8.out
        have o13 := HZ13.out
        have o19 := HZ19.out
        have y0 := HY0.out
        have y1 := HY1.out
        have y2 := HY2.out
        have m1 := set5_modG x3 x2.heap.size (.int .i64 D.at_) (.int .i64 D.acc) (.slice (some ⟨x1.heap.size, 0, none⟩) 8 8) (.slice (some ⟨wd.heap.size, 0, none⟩) D.nt D.nt) (.bool D.d) (X := fun x => x = x2.heap.size) rfl
        have FIN : Hid (GoRel w1 D (.pointer (some ⟨x2.heap.size, 0, none⟩)) (((((x3.setCell ⟨x2.heap.size, 0, none⟩ (.int .i64 D.at_)).setCell ⟨x2.heap.size, 1, none⟩ (.int .i64 D.acc)).setCell ⟨x2.heap.size, 2, none⟩ (.slice (some ⟨x1.heap.size, 0, none⟩) 8 8)).setCell ⟨x2.heap.size, 3, none⟩ (.slice (some ⟨wd.heap.size, 0, none⟩) D.nt D.nt)).setCell ⟨x2.heap.size, 4, none⟩ (.bool D.d))) := ⟨x2.heap.size, x1.heap.size, wd.heap.size, rfl, set5_all RG.out _ _ _ _ _, R8.out.mod m1 (by omega), RN.out.mod m1 (by omega), ⟨by omega, by omega, by omega, by omega, by omega, by omega⟩, Mod.blw HBW.out m1 (fun i hi => by omega)⟩
        replace HBW : Hid (Blw w1 (((((x3.setCell ⟨x2.heap.size, 0, none⟩ (.int .i64 D.at_)).setCell ⟨x2.heap.size, 1, none⟩ (.int .i64 D.acc)).setCell ⟨x2.heap.size, 2, none⟩ (.slice (some ⟨x1.heap.size, 0, none⟩) 8 8)).setCell ⟨x2.heap.size, 3, none⟩ (.slice (some ⟨wd.heap.size, 0, none⟩) D.nt D.nt)).setCell ⟨x2.heap.size, 4, none⟩ (.bool D.d))) := Mod.blw HBW.out m1 (fun i hi => by omega)
        clear m1 o8 o13 o19 y0 y1 y2 R8 RN RG
        go_simp
        refine hK.out _ _ (four (HC.out.blw HBW.out)) (fun hB => ?_)
        clear hK K hB
        try simp only [Act.put, List.setIfInBounds_toArray, List.set_cons_zero, List.set_cons_succ]
        clear t0 t1 t2 t3 t4 f0 f1 f2 f3 f4
        refine wpAnyH_done (by kernel_rfl) ?_ _
        refine NoPanic.normal ?_
        go_wp2_with fail
        go_meet
        exact FIN.out
      · go_simp
        have hb : Blw x1 (x1.alloc (.cells #[.int .i64 0, .int .i64 0, .slice none 0 0, .slice none 0 0, .bool false] 61)) := (Blw.refl _).alloc _
        have RG : Hid (Row (x1.alloc (.cells #[.int .i64 0, .int .i64 0, .slice none 0 0, .slice none 0 0, .bool false] 61)) x1.heap.size 5 (fun i => if i = 0 then .int .i64 0 else if i = 1 then .int .i64 0 else if i = 2 then .slice none 0 0 else if i = 3 then .slice none 0 0 else .bool false)) := row5 x1 (.int .i64 0) (.int .i64 0) (.slice none 0 0) (.slice none 0 0) (.bool false) 61
        have HZ19 : Hid (w1.heap.size ≤ x1.heap.size ∧ x1.heap.size < (x1.alloc (.cells #[.int .i64 0, .int .i64 0, .slice none 0 0, .slice none 0 0, .bool false] 61)).heap.size) := ⟨HBW.out.size, by simp⟩
        generalize x1.alloc (.cells #[.int .i64 0, .int .i64 0, .slice none 0 0, .slice none 0 0, .bool false] 61) = x2 at *
        replace HBW : Hid (Blw w1 x2) := HBW.out.trans hb
        replace RN : Hid (Row x2 wd.heap.size D.nt (fun _ => .int .i64 0)) := RN.out.blw hb
        have HY1 : Hid (x1.heap.size ≤ x2.heap.size) := hb.size
        clear hb
        refine hK.out _ _ (four (HC.out.blw HBW.out)) (fun hB => ?_)
        clear hK K hB
        try simp only [Act.put, List.setIfInBounds_toArray, List.set_cons_zero, List.set_cons_succ]
        refine wpAnyH_ready (rs := [8]) (by kernel_rfl) (by simp) ?_
        refine AllReadyH.cons (o := { dst := some 12, op := Op.makeSlice 26 (Operand.const (Value.int IntKind.i64 8)) (Operand.const (Value.int IntKind.i64 8)), type := 26, pos := _, after := #[], guard := none }) rfl (fun K hK => ?_) AllReadyH.nil
        have hmk : (Instr.makeSlice 26 (.int .i64 8) (.int .i64 8)).run Try.prog x2 = .ok (.slice (some ⟨x2.heap.size, 0, none⟩) 8 8) (x2.alloc (.cells (madeCells #[.int .i64 0] 8) 3)) := mkInts 8 (by omega) x2
        go_simp
        clear hmk
        have hb : Blw x2 (x2.alloc (.cells (madeCells #[.int .i64 0] 8) 3)) := (Blw.refl _).alloc _
        have R8 : Hid (Row (x2.alloc (.cells (madeCells #[.int .i64 0] 8) 3)) x2.heap.size 8 (fun _ => .int .i64 0)) := Row.made x2 (.int .i64 0) 8 3
        have HZ8 : Hid (w1.heap.size ≤ x2.heap.size ∧ x2.heap.size < (x2.alloc (.cells (madeCells #[.int .i64 0] 8) 3)).heap.size) := ⟨HBW.out.size, by simp⟩
        generalize x2.alloc (.cells (madeCells #[.int .i64 0] 8) 3) = x3 at *
        replace HBW : Hid (Blw w1 x3) := HBW.out.trans hb
        replace RN : Hid (Row x3 wd.heap.size D.nt (fun _ => .int .i64 0)) := RN.out.blw hb
        replace RG : Hid (Row x3 x1.heap.size 5 (fun i => if i = 0 then .int .i64 0 else if i = 1 then .int .i64 0 else if i = 2 then .slice none 0 0 else if i = 3 then .slice none 0 0 else .bool false)) := RG.out.blw hb
        have HY2 : Hid (x2.heap.size ≤ x3.heap.size) := hb.size
        clear hb
        refine hK.out _ _ (four (HC.out.blw HBW.out)) (fun hB => ?_)
        clear hK K hB
        try simp only [Act.put, List.setIfInBounds_toArray, List.set_cons_zero, List.set_cons_succ]
        refine wpAnyH_take (i := 18) (oi := { dst := some 22, op := Op.build 61 #[(0, Operand.tmp 7), (1, Operand.tmp 11), (2, Operand.tmp 12), (3, Operand.tmp 17), (4, Operand.tmp 21)], type := 61, pos := _, after := #[{ on := 3, ground := Ground.data }, { on := 7, ground := Ground.data }, { on := 8, ground := Ground.data }, { on := 13, ground := Ground.data }, { on := 17, ground := Ground.data }], guard := none }) (v := (.agg #[.int .i64 D.at_, .int .i64 D.acc, .slice (some ⟨x2.heap.size, 0, none⟩) 8 8, .slice (some ⟨wd.heap.size, 0, none⟩) D.nt D.nt, .bool D.d])) rfl (by kernel_rfl) (by kernel_rfl) (by kernel_rfl) (fun _ _ _ h => h) (Or.inl ⟨by rfl, fun w' hS => by (try dsimp only at hS); go_simp⟩) (four (HC.out.blw HBW.out)) ?_
        simp only [Act.put, List.setIfInBounds_toArray, List.set_cons_zero, List.set_cons_succ]
        refine wpAnyH_ready (rs := [20]) (by kernel_rfl) (by simp) ?_
        refine AllReadyH.cons (o := { dst := none, op := Op.store 61 (Operand.tmp 3) (Operand.tmp 22), type := 0, pos := _, after := #[{ on := 19, ground := Ground.data }, { on := 18, ground := Ground.data }, { on := 0, ground := Ground.phase }, { on := 1, ground := Ground.phase }, { on := 2, ground := Ground.phase }, { on := 3, ground := Ground.phase }, { on := 4, ground := Ground.phase }, { on := 5, ground := Ground.phase }, { on := 6, ground := Ground.phase }, { on := 7, ground := Ground.phase }, { on := 8, ground := Ground.phase }, { on := 9, ground := Ground.phase }, { on := 10, ground := Ground.phase }, { on := 11, ground := Ground.phase }, { on := 12, ground := Ground.phase }, { on := 13, ground := Ground.phase }, { on := 14, ground := Ground.phase }, { on := 15, ground := Ground.phase }, { on := 16, ground := Ground.phase }, { on := 17, ground := Ground.phase }, { on := 18, ground := Ground.phase }, { on := 19, ground := Ground.phase }], guard := none }) rfl (fun K hK => ?_) AllReadyH.nil
        obtain ⟨t0, t1, t2, t3, t4⟩ := get5 RG.out
        have f0 := RG.out.frozen 0
        have f1 := RG.out.frozen 1
        have f2 := RG.out.frozen 2
        have f3 := RG.out.frozen 3
        have f4 := RG.out.frozen 4
        have o8 := HZ8.out
        have o13 := HZ13.out
        have o19 := HZ19.out
        have y0 := HY0.out
        have y1 := HY1.out
        have y2 := HY2.out
        have m1 := set5_modG x3 x1.heap.size (.int .i64 D.at_) (.int .i64 D.acc) (.slice (some ⟨x2.heap.size, 0, none⟩) 8 8) (.slice (some ⟨wd.heap.size, 0, none⟩) D.nt D.nt) (.bool D.d) (X := fun x => x = x1.heap.size) rfl
        have FIN : Hid (GoRel w1 D (.pointer (some ⟨x1.heap.size, 0, none⟩)) (((((x3.setCell ⟨x1.heap.size, 0, none⟩ (.int .i64 D.at_)).setCell ⟨x1.heap.size, 1, none⟩ (.int .i64 D.acc)).setCell ⟨x1.heap.size, 2, none⟩ (.slice (some ⟨x2.heap.size, 0, none⟩) 8 8)).setCell ⟨x1.heap.size, 3, none⟩ (.slice (some ⟨wd.heap.size, 0, none⟩) D.nt D.nt)).setCell ⟨x1.heap.size, 4, none⟩ (.bool D.d))) := ⟨x1.heap.size, x2.heap.size, wd.heap.size, rfl, set5_all RG.out _ _ _ _ _, R8.out.mod m1 (by omega), RN.out.mod m1 (by omega), ⟨by omega, by omega, by omega, by omega, by omega, by omega⟩, Mod.blw HBW.out m1 (fun i hi => by omega)⟩
        replace HBW : Hid (Blw w1 (((((x3.setCell ⟨x1.heap.size, 0, none⟩ (.int .i64 D.at_)).setCell ⟨x1.heap.size, 1, none⟩ (.int .i64 D.acc)).setCell ⟨x1.heap.size, 2, none⟩ (.slice (some ⟨x2.heap.size, 0, none⟩) 8 8)).setCell ⟨x1.heap.size, 3, none⟩ (.slice (some ⟨wd.heap.size, 0, none⟩) D.nt D.nt)).setCell ⟨x1.heap.size, 4, none⟩ (.bool D.d))) := Mod.blw HBW.out m1 (fun i hi => by omega)
        clear m1 o8 o13 o19 y0 y1 y2 R8 RN RG
        go_simp
        refine hK.out _ _ (four (HC.out.blw HBW.out)) (fun hB => ?_)
        clear hK K hB
        try simp only [Act.put, List.setIfInBounds_toArray, List.set_cons_zero, List.set_cons_succ]
        clear t0 t1 t2 t3 t4 f0 f1 f2 f3 f4
        refine wpAnyH_done (by kernel_rfl) ?_ _
        refine NoPanic.normal ?_
        go_wp2_with fail
        go_meet
        exact FIN.out
    · go_simp
      have hb : Blw wd (wd.alloc (.cells #[.int .i64 0, .int .i64 0, .slice none 0 0, .slice none 0 0, .bool false] 61)) := (Blw.refl _).alloc _
      have RG : Hid (Row (wd.alloc (.cells #[.int .i64 0, .int .i64 0, .slice none 0 0, .slice none 0 0, .bool false] 61)) wd.heap.size 5 (fun i => if i = 0 then .int .i64 0 else if i = 1 then .int .i64 0 else if i = 2 then .slice none 0 0 else if i = 3 then .slice none 0 0 else .bool false)) := row5 wd (.int .i64 0) (.int .i64 0) (.slice none 0 0) (.slice none 0 0) (.bool false) 61
      have HZ19 : Hid (w1.heap.size ≤ wd.heap.size ∧ wd.heap.size < (wd.alloc (.cells #[.int .i64 0, .int .i64 0, .slice none 0 0, .slice none 0 0, .bool false] 61)).heap.size) := ⟨HBW.out.size, by simp⟩
      generalize wd.alloc (.cells #[.int .i64 0, .int .i64 0, .slice none 0 0, .slice none 0 0, .bool false] 61) = x1 at *
      replace HBW : Hid (Blw w1 x1) := HBW.out.trans hb
      have HY0 : Hid (wd.heap.size ≤ x1.heap.size) := hb.size
      clear hb
      refine hK.out _ _ (four (HC.out.blw HBW.out)) (fun hB => ?_)
      clear hK K hB
      try simp only [Act.put, List.setIfInBounds_toArray, List.set_cons_zero, List.set_cons_succ]
      refine wpAnyH_ready (rs := [8, 13]) (by kernel_rfl) (by simp) ?_
      refine AllReadyH.cons (o := { dst := some 12, op := Op.makeSlice 26 (Operand.const (Value.int IntKind.i64 8)) (Operand.const (Value.int IntKind.i64 8)), type := 26, pos := _, after := #[], guard := none }) rfl (fun K hK => ?_) (AllReadyH.cons (o := { dst := some 17, op := Op.makeSlice 26 (Operand.tmp 16) (Operand.tmp 16), type := 26, pos := _, after := #[{ on := 12, ground := Ground.data }, { on := 12, ground := Ground.data }], guard := none }) rfl (fun K hK => ?_) AllReadyH.nil)
      · have hmk : (Instr.makeSlice 26 (.int .i64 8) (.int .i64 8)).run Try.prog x1 = .ok (.slice (some ⟨x1.heap.size, 0, none⟩) 8 8) (x1.alloc (.cells (madeCells #[.int .i64 0] 8) 3)) := mkInts 8 (by omega) x1
        go_simp
        clear hmk
        have hb : Blw x1 (x1.alloc (.cells (madeCells #[.int .i64 0] 8) 3)) := (Blw.refl _).alloc _
        have R8 : Hid (Row (x1.alloc (.cells (madeCells #[.int .i64 0] 8) 3)) x1.heap.size 8 (fun _ => .int .i64 0)) := Row.made x1 (.int .i64 0) 8 3
        have HZ8 : Hid (w1.heap.size ≤ x1.heap.size ∧ x1.heap.size < (x1.alloc (.cells (madeCells #[.int .i64 0] 8) 3)).heap.size) := ⟨HBW.out.size, by simp⟩
        generalize x1.alloc (.cells (madeCells #[.int .i64 0] 8) 3) = x2 at *
        replace HBW : Hid (Blw w1 x2) := HBW.out.trans hb
        replace RG : Hid (Row x2 wd.heap.size 5 (fun i => if i = 0 then .int .i64 0 else if i = 1 then .int .i64 0 else if i = 2 then .slice none 0 0 else if i = 3 then .slice none 0 0 else .bool false)) := RG.out.blw hb
        have HY1 : Hid (x1.heap.size ≤ x2.heap.size) := hb.size
        clear hb
        refine hK.out _ _ (four (HC.out.blw HBW.out)) (fun hB => ?_)
        clear hK K hB
        try simp only [Act.put, List.setIfInBounds_toArray, List.set_cons_zero, List.set_cons_succ]
        refine wpAnyH_ready (rs := [13]) (by kernel_rfl) (by simp) ?_
        refine AllReadyH.cons (o := { dst := some 17, op := Op.makeSlice 26 (Operand.tmp 16) (Operand.tmp 16), type := 26, pos := _, after := #[{ on := 12, ground := Ground.data }, { on := 12, ground := Ground.data }], guard := none }) rfl (fun K hK => ?_) AllReadyH.nil
        have hmk := mkInts D.nt (by omega) x2
        go_simp
        clear hmk
        have hb : Blw x2 (x2.alloc (.cells (madeCells #[.int .i64 0] D.nt) 3)) := (Blw.refl _).alloc _
        have RN : Hid (Row (x2.alloc (.cells (madeCells #[.int .i64 0] D.nt) 3)) x2.heap.size D.nt (fun _ => .int .i64 0)) := Row.made x2 (.int .i64 0) D.nt 3
        have HZ13 : Hid (w1.heap.size ≤ x2.heap.size ∧ x2.heap.size < (x2.alloc (.cells (madeCells #[.int .i64 0] D.nt) 3)).heap.size) := ⟨HBW.out.size, by simp⟩
        generalize x2.alloc (.cells (madeCells #[.int .i64 0] D.nt) 3) = x3 at *
        replace HBW : Hid (Blw w1 x3) := HBW.out.trans hb
        replace RG : Hid (Row x3 wd.heap.size 5 (fun i => if i = 0 then .int .i64 0 else if i = 1 then .int .i64 0 else if i = 2 then .slice none 0 0 else if i = 3 then .slice none 0 0 else .bool false)) := RG.out.blw hb
        replace R8 : Hid (Row x3 x1.heap.size 8 (fun _ => .int .i64 0)) := R8.out.blw hb
        have HY2 : Hid (x2.heap.size ≤ x3.heap.size) := hb.size
        clear hb
        refine hK.out _ _ (four (HC.out.blw HBW.out)) (fun hB => ?_)
        clear hK K hB
        try simp only [Act.put, List.setIfInBounds_toArray, List.set_cons_zero, List.set_cons_succ]
        refine wpAnyH_take (i := 18) (oi := { dst := some 22, op := Op.build 61 #[(0, Operand.tmp 7), (1, Operand.tmp 11), (2, Operand.tmp 12), (3, Operand.tmp 17), (4, Operand.tmp 21)], type := 61, pos := _, after := #[{ on := 3, ground := Ground.data }, { on := 7, ground := Ground.data }, { on := 8, ground := Ground.data }, { on := 13, ground := Ground.data }, { on := 17, ground := Ground.data }], guard := none }) (v := (.agg #[.int .i64 D.at_, .int .i64 D.acc, .slice (some ⟨x1.heap.size, 0, none⟩) 8 8, .slice (some ⟨x2.heap.size, 0, none⟩) D.nt D.nt, .bool D.d])) rfl (by kernel_rfl) (by kernel_rfl) (by kernel_rfl) (fun _ _ _ h => h) (Or.inl ⟨by rfl, fun w' hS => by (try dsimp only at hS); go_simp⟩) (four (HC.out.blw HBW.out)) ?_
        simp only [Act.put, List.setIfInBounds_toArray, List.set_cons_zero, List.set_cons_succ]
        refine wpAnyH_ready (rs := [20]) (by kernel_rfl) (by simp) ?_
        refine AllReadyH.cons (o := { dst := none, op := Op.store 61 (Operand.tmp 3) (Operand.tmp 22), type := 0, pos := _, after := #[{ on := 19, ground := Ground.data }, { on := 18, ground := Ground.data }, { on := 0, ground := Ground.phase }, { on := 1, ground := Ground.phase }, { on := 2, ground := Ground.phase }, { on := 3, ground := Ground.phase }, { on := 4, ground := Ground.phase }, { on := 5, ground := Ground.phase }, { on := 6, ground := Ground.phase }, { on := 7, ground := Ground.phase }, { on := 8, ground := Ground.phase }, { on := 9, ground := Ground.phase }, { on := 10, ground := Ground.phase }, { on := 11, ground := Ground.phase }, { on := 12, ground := Ground.phase }, { on := 13, ground := Ground.phase }, { on := 14, ground := Ground.phase }, { on := 15, ground := Ground.phase }, { on := 16, ground := Ground.phase }, { on := 17, ground := Ground.phase }, { on := 18, ground := Ground.phase }, { on := 19, ground := Ground.phase }], guard := none }) rfl (fun K hK => ?_) AllReadyH.nil
        obtain ⟨t0, t1, t2, t3, t4⟩ := get5 RG.out
        have f0 := RG.out.frozen 0
        have f1 := RG.out.frozen 1
        have f2 := RG.out.frozen 2
        have f3 := RG.out.frozen 3
        have f4 := RG.out.frozen 4
        have o8 := HZ8.out
        have o13 := HZ13.out
        have o19 := HZ19.out
        have y0 := HY0.out
        have y1 := HY1.out
        have y2 := HY2.out
        have m1 := set5_modG x3 wd.heap.size (.int .i64 D.at_) (.int .i64 D.acc) (.slice (some ⟨x1.heap.size, 0, none⟩) 8 8) (.slice (some ⟨x2.heap.size, 0, none⟩) D.nt D.nt) (.bool D.d) (X := fun x => x = wd.heap.size) rfl
        have FIN : Hid (GoRel w1 D (.pointer (some ⟨wd.heap.size, 0, none⟩)) (((((x3.setCell ⟨wd.heap.size, 0, none⟩ (.int .i64 D.at_)).setCell ⟨wd.heap.size, 1, none⟩ (.int .i64 D.acc)).setCell ⟨wd.heap.size, 2, none⟩ (.slice (some ⟨x1.heap.size, 0, none⟩) 8 8)).setCell ⟨wd.heap.size, 3, none⟩ (.slice (some ⟨x2.heap.size, 0, none⟩) D.nt D.nt)).setCell ⟨wd.heap.size, 4, none⟩ (.bool D.d))) := ⟨wd.heap.size, x1.heap.size, x2.heap.size, rfl, set5_all RG.out _ _ _ _ _, R8.out.mod m1 (by omega), RN.out.mod m1 (by omega), ⟨by omega, by omega, by omega, by omega, by omega, by omega⟩, Mod.blw HBW.out m1 (fun i hi => by omega)⟩
        replace HBW : Hid (Blw w1 (((((x3.setCell ⟨wd.heap.size, 0, none⟩ (.int .i64 D.at_)).setCell ⟨wd.heap.size, 1, none⟩ (.int .i64 D.acc)).setCell ⟨wd.heap.size, 2, none⟩ (.slice (some ⟨x1.heap.size, 0, none⟩) 8 8)).setCell ⟨wd.heap.size, 3, none⟩ (.slice (some ⟨x2.heap.size, 0, none⟩) D.nt D.nt)).setCell ⟨wd.heap.size, 4, none⟩ (.bool D.d))) := Mod.blw HBW.out m1 (fun i hi => by omega)
        clear m1 o8 o13 o19 y0 y1 y2 R8 RN RG
        go_simp
        refine hK.out _ _ (four (HC.out.blw HBW.out)) (fun hB => ?_)
        clear hK K hB
        try simp only [Act.put, List.setIfInBounds_toArray, List.set_cons_zero, List.set_cons_succ]
        clear t0 t1 t2 t3 t4 f0 f1 f2 f3 f4
        refine wpAnyH_done (by kernel_rfl) ?_ _
        refine NoPanic.normal ?_
        go_wp2_with fail
        go_meet
        exact FIN.out
      · have hmk := mkInts D.nt (by omega) x1
        go_simp
        clear hmk
        have hb : Blw x1 (x1.alloc (.cells (madeCells #[.int .i64 0] D.nt) 3)) := (Blw.refl _).alloc _
        have RN : Hid (Row (x1.alloc (.cells (madeCells #[.int .i64 0] D.nt) 3)) x1.heap.size D.nt (fun _ => .int .i64 0)) := Row.made x1 (.int .i64 0) D.nt 3
        have HZ13 : Hid (w1.heap.size ≤ x1.heap.size ∧ x1.heap.size < (x1.alloc (.cells (madeCells #[.int .i64 0] D.nt) 3)).heap.size) := ⟨HBW.out.size, by simp⟩
        generalize x1.alloc (.cells (madeCells #[.int .i64 0] D.nt) 3) = x2 at *
        replace HBW : Hid (Blw w1 x2) := HBW.out.trans hb
        replace RG : Hid (Row x2 wd.heap.size 5 (fun i => if i = 0 then .int .i64 0 else if i = 1 then .int .i64 0 else if i = 2 then .slice none 0 0 else if i = 3 then .slice none 0 0 else .bool false)) := RG.out.blw hb
        have HY1 : Hid (x1.heap.size ≤ x2.heap.size) := hb.size
        clear hb
        refine hK.out _ _ (four (HC.out.blw HBW.out)) (fun hB => ?_)
        clear hK K hB
        try simp only [Act.put, List.setIfInBounds_toArray, List.set_cons_zero, List.set_cons_succ]
        refine wpAnyH_ready (rs := [8]) (by kernel_rfl) (by simp) ?_
        refine AllReadyH.cons (o := { dst := some 12, op := Op.makeSlice 26 (Operand.const (Value.int IntKind.i64 8)) (Operand.const (Value.int IntKind.i64 8)), type := 26, pos := _, after := #[], guard := none }) rfl (fun K hK => ?_) AllReadyH.nil
        have hmk : (Instr.makeSlice 26 (.int .i64 8) (.int .i64 8)).run Try.prog x2 = .ok (.slice (some ⟨x2.heap.size, 0, none⟩) 8 8) (x2.alloc (.cells (madeCells #[.int .i64 0] 8) 3)) := mkInts 8 (by omega) x2
        go_simp
        clear hmk
        have hb : Blw x2 (x2.alloc (.cells (madeCells #[.int .i64 0] 8) 3)) := (Blw.refl _).alloc _
        have R8 : Hid (Row (x2.alloc (.cells (madeCells #[.int .i64 0] 8) 3)) x2.heap.size 8 (fun _ => .int .i64 0)) := Row.made x2 (.int .i64 0) 8 3
        have HZ8 : Hid (w1.heap.size ≤ x2.heap.size ∧ x2.heap.size < (x2.alloc (.cells (madeCells #[.int .i64 0] 8) 3)).heap.size) := ⟨HBW.out.size, by simp⟩
        generalize x2.alloc (.cells (madeCells #[.int .i64 0] 8) 3) = x3 at *
        replace HBW : Hid (Blw w1 x3) := HBW.out.trans hb
        replace RG : Hid (Row x3 wd.heap.size 5 (fun i => if i = 0 then .int .i64 0 else if i = 1 then .int .i64 0 else if i = 2 then .slice none 0 0 else if i = 3 then .slice none 0 0 else .bool false)) := RG.out.blw hb
        replace RN : Hid (Row x3 x1.heap.size D.nt (fun _ => .int .i64 0)) := RN.out.blw hb
        have HY2 : Hid (x2.heap.size ≤ x3.heap.size) := hb.size
        clear hb
        refine hK.out _ _ (four (HC.out.blw HBW.out)) (fun hB => ?_)
        clear hK K hB
        try simp only [Act.put, List.setIfInBounds_toArray, List.set_cons_zero, List.set_cons_succ]
        refine wpAnyH_take (i := 18) (oi := { dst := some 22, op := Op.build 61 #[(0, Operand.tmp 7), (1, Operand.tmp 11), (2, Operand.tmp 12), (3, Operand.tmp 17), (4, Operand.tmp 21)], type := 61, pos := _, after := #[{ on := 3, ground := Ground.data }, { on := 7, ground := Ground.data }, { on := 8, ground := Ground.data }, { on := 13, ground := Ground.data }, { on := 17, ground := Ground.data }], guard := none }) (v := (.agg #[.int .i64 D.at_, .int .i64 D.acc, .slice (some ⟨x2.heap.size, 0, none⟩) 8 8, .slice (some ⟨x1.heap.size, 0, none⟩) D.nt D.nt, .bool D.d])) rfl (by kernel_rfl) (by kernel_rfl) (by kernel_rfl) (fun _ _ _ h => h) (Or.inl ⟨by rfl, fun w' hS => by (try dsimp only at hS); go_simp⟩) (four (HC.out.blw HBW.out)) ?_
        simp only [Act.put, List.setIfInBounds_toArray, List.set_cons_zero, List.set_cons_succ]
        refine wpAnyH_ready (rs := [20]) (by kernel_rfl) (by simp) ?_
        refine AllReadyH.cons (o := { dst := none, op := Op.store 61 (Operand.tmp 3) (Operand.tmp 22), type := 0, pos := _, after := #[{ on := 19, ground := Ground.data }, { on := 18, ground := Ground.data }, { on := 0, ground := Ground.phase }, { on := 1, ground := Ground.phase }, { on := 2, ground := Ground.phase }, { on := 3, ground := Ground.phase }, { on := 4, ground := Ground.phase }, { on := 5, ground := Ground.phase }, { on := 6, ground := Ground.phase }, { on := 7, ground := Ground.phase }, { on := 8, ground := Ground.phase }, { on := 9, ground := Ground.phase }, { on := 10, ground := Ground.phase }, { on := 11, ground := Ground.phase }, { on := 12, ground := Ground.phase }, { on := 13, ground := Ground.phase }, { on := 14, ground := Ground.phase }, { on := 15, ground := Ground.phase }, { on := 16, ground := Ground.phase }, { on := 17, ground := Ground.phase }, { on := 18, ground := Ground.phase }, { on := 19, ground := Ground.phase }], guard := none }) rfl (fun K hK => ?_) AllReadyH.nil
        obtain ⟨t0, t1, t2, t3, t4⟩ := get5 RG.out
        have f0 := RG.out.frozen 0
        have f1 := RG.out.frozen 1
        have f2 := RG.out.frozen 2
        have f3 := RG.out.frozen 3
        have f4 := RG.out.frozen 4
        have o8 := HZ8.out
        have o13 := HZ13.out
        have o19 := HZ19.out
        have y0 := HY0.out
        have y1 := HY1.out
        have y2 := HY2.out
        have m1 := set5_modG x3 wd.heap.size (.int .i64 D.at_) (.int .i64 D.acc) (.slice (some ⟨x2.heap.size, 0, none⟩) 8 8) (.slice (some ⟨x1.heap.size, 0, none⟩) D.nt D.nt) (.bool D.d) (X := fun x => x = wd.heap.size) rfl
        have FIN : Hid (GoRel w1 D (.pointer (some ⟨wd.heap.size, 0, none⟩)) (((((x3.setCell ⟨wd.heap.size, 0, none⟩ (.int .i64 D.at_)).setCell ⟨wd.heap.size, 1, none⟩ (.int .i64 D.acc)).setCell ⟨wd.heap.size, 2, none⟩ (.slice (some ⟨x2.heap.size, 0, none⟩) 8 8)).setCell ⟨wd.heap.size, 3, none⟩ (.slice (some ⟨x1.heap.size, 0, none⟩) D.nt D.nt)).setCell ⟨wd.heap.size, 4, none⟩ (.bool D.d))) := ⟨wd.heap.size, x2.heap.size, x1.heap.size, rfl, set5_all RG.out _ _ _ _ _, R8.out.mod m1 (by omega), RN.out.mod m1 (by omega), ⟨by omega, by omega, by omega, by omega, by omega, by omega⟩, Mod.blw HBW.out m1 (fun i hi => by omega)⟩
        replace HBW : Hid (Blw w1 (((((x3.setCell ⟨wd.heap.size, 0, none⟩ (.int .i64 D.at_)).setCell ⟨wd.heap.size, 1, none⟩ (.int .i64 D.acc)).setCell ⟨wd.heap.size, 2, none⟩ (.slice (some ⟨x2.heap.size, 0, none⟩) 8 8)).setCell ⟨wd.heap.size, 3, none⟩ (.slice (some ⟨x1.heap.size, 0, none⟩) D.nt D.nt)).setCell ⟨wd.heap.size, 4, none⟩ (.bool D.d))) := Mod.blw HBW.out m1 (fun i hi => by omega)
        clear m1 o8 o13 o19 y0 y1 y2 R8 RN RG
        go_simp
        refine hK.out _ _ (four (HC.out.blw HBW.out)) (fun hB => ?_)
        clear hK K hB
        try simp only [Act.put, List.setIfInBounds_toArray, List.set_cons_zero, List.set_cons_succ]
        clear t0 t1 t2 t3 t4 f0 f1 f2 f3 f4
        refine wpAnyH_done (by kernel_rfl) ?_ _
        refine NoPanic.normal ?_
        go_wp2_with fail
        go_meet
        exact FIN.out
  case rest =>
  obtain ⟨zg, z1, z2, rfl, hgr, hr1, hr2, hd, hb⟩ := hcut
  have HGR : Hid (Row wc zg 5 (fun i => if i = 0 then .int .i64 D.at_ else if i = 1 then .int .i64 D.acc else if i = 2 then .slice (some ⟨z1, 0, none⟩) 8 8 else if i = 3 then .slice (some ⟨z2, 0, none⟩) D.nt D.nt else .bool D.d)) := hgr
  have HE0 : Hid (Row wc.drew z1 8 (fun _ => .int .i64 0)) := hr1.blw (Blw.refl _).drew
  have HN0 : Hid (Row wc.drew z2 D.nt (fun _ => .int .i64 0)) := hr2.blw (Blw.refl _).drew
  have HD : Hid (w1.heap.size ≤ zg ∧ w1.heap.size ≤ z1 ∧ w1.heap.size ≤ z2 ∧ zg ≠ z1 ∧ zg ≠ z2 ∧ z1 ≠ z2) := hd
  have HBW : Hid (Blw w1 wc) := hb
  clear hgr hr1 hr2 hd hb
  go_upto_region 2 with fail
  replace HGR : Hid (Row wc.drew zg 5 (fun i => if i = 0 then .int .i64 D.at_ else if i = 1 then .int .i64 D.acc else if i = 2 then .slice (some ⟨z1, 0, none⟩) 8 8 else if i = 3 then .slice (some ⟨z2, 0, none⟩) D.nt D.nt else .bool D.d)) := HGR.out.blw (Blw.refl _).drew
  replace HBW : Hid (Blw w1 wc.drew) := HBW.out.drew
  refine wp_region_noPanic ?_
  refine wp_region_held_drew (S := fun w' => w'.cell? ⟨zg, 2, none⟩ = some (.slice (some ⟨z1, 0, none⟩) 8 8)) (by kernel_rfl) (get5 HGR.out).2.2.1 (fun hB => ?_)
  clear hB
  refine wpAnyH_take (i := 0) (oi := { dst := some 23, op := Op.fieldAddr 61 (Operand.tmp 3) 2, type := 0, pos := _, after := #[], guard := none }) (v := (.pointer (some ⟨zg, 2, none⟩))) rfl (by kernel_rfl) (by kernel_rfl) (by kernel_rfl) (fun _ _ _ h => h) (Or.inl ⟨by rfl, fun w' hS => by (try dsimp only at hS); go_simp⟩) (get5 HGR.out).2.2.1 ?_
  simp only [Act.put, List.setIfInBounds_toArray, List.set_cons_zero, List.set_cons_succ]
  refine wpAnyH_take (i := 2) (oi := { dst := some 25, op := Op.move (Operand.tmp 0), type := 209, pos := _, after := #[], guard := none }) (v := (.pointer (some ⟨z, 1, none⟩))) rfl (by kernel_rfl) (by kernel_rfl) (by kernel_rfl) (fun _ _ _ h => h) (Or.inl ⟨by rfl, fun w' hS => by (try dsimp only at hS); go_simp⟩) (get5 HGR.out).2.2.1 ?_
  simp only [Act.put, List.setIfInBounds_toArray, List.set_cons_zero, List.set_cons_succ]
  refine wpAnyH_take (i := 1) (oi := { dst := some 24, op := Op.load 26 (Operand.tmp 23), type := 26, pos := _, after := #[{ on := 0, ground := Ground.data }], guard := none }) (v := (.slice (some ⟨z1, 0, none⟩) 8 8)) rfl (by kernel_rfl) (by kernel_rfl) (by kernel_rfl) (fun _ _ _ h => h) (Or.inl ⟨by rfl, fun w' hS => by (try dsimp only at hS); go_simp⟩) (get5 HGR.out).2.2.1 ?_
  simp only [Act.put, List.setIfInBounds_toArray, List.set_cons_zero, List.set_cons_succ]
  refine wpAnyH_take (i := 3) (oi := { dst := some 26, op := Op.nilCheck (Operand.tmp 25), type := 0, pos := _, after := #[{ on := 2, ground := Ground.data }], guard := none }) (v := (.pointer (some ⟨z, 1, none⟩))) rfl (by kernel_rfl) (by kernel_rfl) (by kernel_rfl) (fun _ _ _ h => h) (Or.inl ⟨by rfl, fun w' hS => by (try dsimp only at hS); go_simp⟩) (get5 HGR.out).2.2.1 ?_
  simp only [Act.put, List.setIfInBounds_toArray, List.set_cons_zero, List.set_cons_succ]
  refine wpAnyH_take (i := 4) (oi := { dst := some 27, op := Op.fieldAddr 148 (Operand.tmp 26) 2, type := 0, pos := _, after := #[{ on := 3, ground := Ground.data }], guard := none }) (v := (.pointer (some ⟨z, 3, none⟩))) rfl (by kernel_rfl) (by kernel_rfl) (by kernel_rfl) (fun _ _ _ h => h) (Or.inl ⟨by rfl, fun w' hS => by (try dsimp only at hS); go_simp⟩) (get5 HGR.out).2.2.1 ?_
  simp only [Act.put, List.setIfInBounds_toArray, List.set_cons_zero, List.set_cons_succ]
  refine wpAnyH_take (i := 5) (oi := { dst := some 28, op := Op.slice 145 (Operand.tmp 27) none none none, type := 26, pos := _, after := #[{ on := 4, ground := Ground.data }], guard := none }) (v := (.slice (some ⟨z, 3, none⟩) 8 8)) rfl (by kernel_rfl) (by kernel_rfl) (by kernel_rfl) (fun _ _ _ h => h) (Or.inl ⟨by rfl, fun w' hS => by (try dsimp only at hS); go_simp⟩) (get5 HGR.out).2.2.1 ?_
  simp only [Act.put, List.setIfInBounds_toArray, List.set_cons_zero, List.set_cons_succ]
  refine wpAnyH_ready (rs := [6]) (by kernel_rfl) (by simp) ?_
  refine AllReadyH.cons (o := { dst := some 29, op := Op.call { callee := Callee.builtin Builtin.copy, args := #[Operand.tmp 24, Operand.tmp 28], argTypes := #[26, 26] }, type := 3, pos := _, after := #[{ on := 1, ground := Ground.data }, { on := 5, ground := Ground.data }], guard := none }) rfl (fun K hK => ?_) AllReadyH.nil
  obtain ⟨x4, hrun, hrow, hmod, hsz⟩ := copy_front (dc := 8) (c := 8) (held_ints (HC.out.blw HBW.out)).1 (by omega) HE0.out
  refine step_copy_run rfl (.tmp 24) (.tmp 28) 26 26 rfl _ _ rfl rfl _ _ hrun ?_
  clear hrun
  have hd := HD.out
  replace HGR : Hid (Row x4 zg 5 (fun i => if i = 0 then .int .i64 D.at_ else if i = 1 then .int .i64 D.acc else if i = 2 then .slice (some ⟨z1, 0, none⟩) 8 8 else if i = 3 then .slice (some ⟨z2, 0, none⟩) D.nt D.nt else .bool D.d)) := HGR.out.mod hmod (by omega)
  replace HBW : Hid (Blw w1 x4) := Mod.blw HBW.out hmod (fun i hi => by omega)
  refine hK.out _ _ (get5 HGR.out).2.2.1 (fun hB => ?_)
  clear hK K hB
  try simp only [Act.put, List.setIfInBounds_toArray, List.set_cons_zero, List.set_cons_succ]
  refine wpAnyH_done (by kernel_rfl) ?_ _
  refine NoPanic.normal ?_
  have HR1 : Hid (Row x4.drew z1 8 (fun i => .int .i64 (D.c i))) := hrow.blw (Blw.refl _).drew
  replace HN0 : Hid (Row x4.drew z2 D.nt (fun _ => .int .i64 0)) := (HN0.out.mod hmod (by omega)).blw (Blw.refl _).drew
  clear hrow hmod hsz hd HE0
  go_upto_region 3 with fail
  replace HGR : Hid (Row x4.drew zg 5 (fun i => if i = 0 then .int .i64 D.at_ else if i = 1 then .int .i64 D.acc else if i = 2 then .slice (some ⟨z1, 0, none⟩) 8 8 else if i = 3 then .slice (some ⟨z2, 0, none⟩) D.nt D.nt else .bool D.d)) := HGR.out.blw (Blw.refl _).drew
  replace HBW : Hid (Blw w1 x4.drew) := HBW.out.drew
  refine wp_region_noPanic ?_
  refine wp_region_held_drew (S := fun w' => w'.cell? ⟨zg, 3, none⟩ = some (.slice (some ⟨z2, 0, none⟩) D.nt D.nt)) (by kernel_rfl) (get5 HGR.out).2.2.2.1 (fun hB => ?_)
  clear hB
  refine wpAnyH_take (i := 0) (oi := { dst := some 30, op := Op.fieldAddr 61 (Operand.tmp 3) 3, type := 0, pos := _, after := #[], guard := none }) (v := (.pointer (some ⟨zg, 3, none⟩))) rfl (by kernel_rfl) (by kernel_rfl) (by kernel_rfl) (fun _ _ _ h => h) (Or.inl ⟨by rfl, fun w' hS => by (try dsimp only at hS); go_simp⟩) (get5 HGR.out).2.2.2.1 ?_
  simp only [Act.put, List.setIfInBounds_toArray, List.set_cons_zero, List.set_cons_succ]
  refine wpAnyH_take (i := 2) (oi := { dst := some 32, op := Op.move (Operand.tmp 0), type := 209, pos := _, after := #[], guard := none }) (v := (.pointer (some ⟨z, 1, none⟩))) rfl (by kernel_rfl) (by kernel_rfl) (by kernel_rfl) (fun _ _ _ h => h) (Or.inl ⟨by rfl, fun w' hS => by (try dsimp only at hS); go_simp⟩) (get5 HGR.out).2.2.2.1 ?_
  simp only [Act.put, List.setIfInBounds_toArray, List.set_cons_zero, List.set_cons_succ]
  refine wpAnyH_take (i := 1) (oi := { dst := some 31, op := Op.load 26 (Operand.tmp 30), type := 26, pos := _, after := #[{ on := 0, ground := Ground.data }], guard := none }) (v := (.slice (some ⟨z2, 0, none⟩) D.nt D.nt)) rfl (by kernel_rfl) (by kernel_rfl) (by kernel_rfl) (fun _ _ _ h => h) (Or.inl ⟨by rfl, fun w' hS => by (try dsimp only at hS); go_simp⟩) (get5 HGR.out).2.2.2.1 ?_
  simp only [Act.put, List.setIfInBounds_toArray, List.set_cons_zero, List.set_cons_succ]
  refine wpAnyH_take (i := 3) (oi := { dst := some 33, op := Op.nilCheck (Operand.tmp 32), type := 0, pos := _, after := #[{ on := 2, ground := Ground.data }], guard := none }) (v := (.pointer (some ⟨z, 1, none⟩))) rfl (by kernel_rfl) (by kernel_rfl) (by kernel_rfl) (fun _ _ _ h => h) (Or.inl ⟨by rfl, fun w' hS => by (try dsimp only at hS); go_simp⟩) (get5 HGR.out).2.2.2.1 ?_
  simp only [Act.put, List.setIfInBounds_toArray, List.set_cons_zero, List.set_cons_succ]
  refine wpAnyH_take (i := 4) (oi := { dst := some 34, op := Op.fieldAddr 148 (Operand.tmp 33) 3, type := 0, pos := _, after := #[{ on := 3, ground := Ground.data }], guard := none }) (v := (.pointer (some ⟨z, 11, none⟩))) rfl (by kernel_rfl) (by kernel_rfl) (by kernel_rfl) (fun _ _ _ h => h) (Or.inl ⟨by rfl, fun w' hS => by (try dsimp only at hS); go_simp⟩) (get5 HGR.out).2.2.2.1 ?_
  simp only [Act.put, List.setIfInBounds_toArray, List.set_cons_zero, List.set_cons_succ]
  refine wpAnyH_take (i := 5) (oi := { dst := some 35, op := Op.slice 146 (Operand.tmp 34) none none none, type := 26, pos := _, after := #[{ on := 4, ground := Ground.data }], guard := none }) (v := (.slice (some ⟨z, 11, none⟩) 20 20)) rfl (by kernel_rfl) (by kernel_rfl) (by kernel_rfl) (fun _ _ _ h => h) (Or.inl ⟨by rfl, fun w' hS => by (try dsimp only at hS); go_simp⟩) (get5 HGR.out).2.2.2.1 ?_
  simp only [Act.put, List.setIfInBounds_toArray, List.set_cons_zero, List.set_cons_succ]
  refine wpAnyH_ready (rs := [6]) (by kernel_rfl) (by simp) ?_
  refine AllReadyH.cons (o := { dst := some 36, op := Op.call { callee := Callee.builtin Builtin.copy, args := #[Operand.tmp 31, Operand.tmp 35], argTypes := #[26, 26] }, type := 3, pos := _, after := #[{ on := 1, ground := Ground.data }, { on := 5, ground := Ground.data }], guard := none }) rfl (fun K hK => ?_) AllReadyH.nil
  obtain ⟨x5, hrun, hrow, hmod, hsz⟩ := copy_front (dc := D.nt) (c := 20) (held_ints (HC.out.blw HBW.out)).2 (by omega) HN0.out
  refine step_copy_run rfl (.tmp 31) (.tmp 35) 26 26 rfl _ _ rfl rfl _ _ hrun ?_
  clear hrun
  have hd := HD.out
  replace HGR : Hid (Row x5 zg 5 (fun i => if i = 0 then .int .i64 D.at_ else if i = 1 then .int .i64 D.acc else if i = 2 then .slice (some ⟨z1, 0, none⟩) 8 8 else if i = 3 then .slice (some ⟨z2, 0, none⟩) D.nt D.nt else .bool D.d)) := HGR.out.mod hmod (by omega)
  replace HBW : Hid (Blw w1 x5) := Mod.blw HBW.out hmod (fun i hi => by omega)
  refine hK.out _ _ (get5 HGR.out).2.2.2.1 (fun hB => ?_)
  clear hK K hB
  try simp only [Act.put, List.setIfInBounds_toArray, List.set_cons_zero, List.set_cons_succ]
  refine wpAnyH_done (by kernel_rfl) ?_ _
  refine NoPanic.normal ?_
  have HF1 : Hid (Row x5 z1 8 (fun i => .int .i64 (D.c i))) := HR1.out.mod hmod (by omega)
  have HF2 : Hid (Row x5 z2 D.nt (fun i => .int .i64 (D.t i))) := hrow.congr (fun i hi => by unfold tz; rw [if_pos hi])
  have HRZ : Hid (Row x5 w.heap.size 5 (fun i => if i = 0 then .int .i64 0 else if i = 1 then .int .i64 0 else if i = 2 then .slice none 0 0 else if i = 3 then .slice none 0 0 else .bool false)) := HR0.out.blw HBW.out
  clear hrow hmod hsz HR1 HN0
  obtain ⟨p0, p1, p2, p3, p4⟩ := get5 HGR.out
  obtain ⟨t0, t1, t2, t3, t4⟩ := get5 HRZ.out
  have f0 := HRZ.out.frozen 0
  have f1 := HRZ.out.frozen 1
  have f2 := HRZ.out.frozen 2
  have f3 := HRZ.out.frozen 3
  have f4 := HRZ.out.frozen 4
  clear HGR HRZ hd
  go_wp2
  refine bodyPost_ret (v := GV.val ⟨some ⟨z1, 0, none⟩, some ⟨z2, 0, none⟩, 8, D.nt⟩ D) (by simp [results, Try.results115, go_sem, t0, t1, t2, t3, t4, HNC.out]) rfl ?_
  have hd := HD.out
  have hs := HSZ.out
  have m1 := set5_modG x5 w.heap.size (.int .i64 D.at_) (.int .i64 D.acc) (.slice (some ⟨z1, 0, none⟩) 8 8) (.slice (some ⟨z2, 0, none⟩) D.nt D.nt) (.bool D.d) (X := fun x => x = w.heap.size) rfl
  have q1 := HF1.out.lt
  have q2 := HF2.out.lt
  have q3 := m1.size
  exact ⟨_, rfl, GOwn.two (by have := HNC.out; omega) (by omega) (by rw [HNC.out]; exact HF1.out.mod m1 (by omega)) (HF2.out.mod m1 (by omega)) ⟨by omega, by omega⟩ ⟨by omega, by omega⟩ (by omega) _ _, Mod.blw (HB1.out.trans HBW.out) m1 (fun i hi => by omega)⟩
end Go.Proofs.Ytbpdopcdhnemfaa
