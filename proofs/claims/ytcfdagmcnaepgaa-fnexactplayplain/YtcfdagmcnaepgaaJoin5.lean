/- Merged by program, in this order: Clo, Chg, ChgU, ChgP, ImplM. -/
import Derived.Test.YtcfdagmcnaepgaaJoin4
/- What a change makes of a leaf: the program's closures. -/
namespace Go.Proofs.Ytcfdagmcnaepgaa
open Go.RowKit
set_option linter.unusedSimpArgs false
set_option linter.unusedVariables false
set_option maxRecDepth 10000 in
set_option maxHeartbeats 3200000 in
theorem mapFn_any (ox oy g y : Int) (b1 b2 : Nat) (w : World) (hb1 : Row w b1 1 (fun _ => .int .i64 g)) (hb2 : Row w b2 1 (fun _ => .int .i64 y)) :
    Calls Try.prog 53 #[.agg #[.int .i64 ox, .int .i64 oy], .pointer (some ⟨b1, 0, none⟩), .pointer (some ⟨b2, 0, none⟩)] w fun e w' => ∃ r, e = .returned (.tuple #[.agg #[.int .i64 g, .int .i64 y], .bool r]) ∧ (r = true ↔ oy = 0 ∧ pgOK g ∧ mayOK y) ∧ Blw w w' := by
  have hA1 : Blw w (w.alloc (.cells #[.int .i64 ox, .int .i64 oy] 78)) := (Blw.refl _).alloc _
  have hA2 : Blw (w.alloc (.cells #[.int .i64 ox, .int .i64 oy] 78)) ((w.alloc (.cells #[.int .i64 ox, .int .i64 oy] 78)).alloc (.cells #[.int .i64 0, .int .i64 0] 78)) := (Blw.refl _).alloc _
  have HB : Hid (Blw w ((w.alloc (.cells #[.int .i64 ox, .int .i64 oy] 78)).alloc (.cells #[.int .i64 0, .int .i64 0] 78))) := hA1.trans hA2
  have HL : Hid (Row ((w.alloc (.cells #[.int .i64 ox, .int .i64 oy] 78)).alloc (.cells #[.int .i64 0, .int .i64 0] 78)) w.heap.size 2 (fun i => if i = 0 then .int .i64 ox else .int .i64 oy)) := (box2 w _ _ 78).blw hA2
  have rR := box2 (w.alloc (.cells #[.int .i64 ox, .int .i64 oy] 78)) (.int .i64 0) (.int .i64 0) 78
  rw [World.size_alloc] at rR
  have HR : Hid (Row ((w.alloc (.cells #[.int .i64 ox, .int .i64 oy] 78)).alloc (.cells #[.int .i64 0, .int .i64 0] 78)) (w.heap.size + 1) 2 (fun i => if i = 0 then .int .i64 0 else .int .i64 0)) := rR
  have Hb1 : Hid (Row ((w.alloc (.cells #[.int .i64 ox, .int .i64 oy] 78)).alloc (.cells #[.int .i64 0, .int .i64 0] 78)) b1 1 (fun _ => .int .i64 g)) := hb1.blw (hA1.trans hA2)
  have lb1 := hb1.lt
  have Hb2 : Hid (Row ((w.alloc (.cells #[.int .i64 ox, .int .i64 oy] 78)).alloc (.cells #[.int .i64 0, .int .i64 0] 78)) b2 1 (fun _ => .int .i64 y)) := hb2.blw (hA1.trans hA2)
  have lb2 := hb2.lt
  clear hA1 hA2 rR hb1 hb2
  go_enter Try.func53, Try.ntmps53
  by_cases h0 : oy = 0
  case neg =>
    have d1 : (oy == 0) = false := by simp [h0]
    have HN : Hid (¬ (oy = 0 ∧ pgOK g ∧ mayOK y)) := fun q => h0 q.1
    clear h0
    go_upto_region 1 with fail
    generalize ((w.alloc (.cells #[.int .i64 ox, .int .i64 oy] 78)).alloc (.cells #[.int .i64 0, .int .i64 0] 78)) = W at *
    replace Hb1 : Hid (Row W.drew b1 1 (fun _ => .int .i64 g)) := Hb1.out.blw (Blw.refl _).drew
    replace Hb2 : Hid (Row W.drew b2 1 (fun _ => .int .i64 y)) := Hb2.out.blw (Blw.refl _).drew
    replace HL : Hid (Row W.drew w.heap.size 2 (fun i => if i = 0 then .int .i64 ox else .int .i64 oy)) := HL.out.blw (Blw.refl _).drew
    replace HR : Hid (Row W.drew (w.heap.size + 1) 2 (fun i => if i = 0 then .int .i64 0 else .int .i64 0)) := HR.out.blw (Blw.refl _).drew
    replace HB : Hid (Blw w W.drew) := HB.out.drew
    have Pb1 : ∀ w', (Row w' b1 1 (fun _ => .int .i64 g) ∧ Row w' b2 1 (fun _ => .int .i64 y) ∧ Row w' w.heap.size 2 (fun i => if i = 0 then .int .i64 ox else .int .i64 oy)) → w'.cell? ⟨b1, 0, none⟩ = some (.int .i64 g) := fun w' hh => (hh.1).cell (i := 0) (by omega)
    have Pb2 : ∀ w', (Row w' b1 1 (fun _ => .int .i64 g) ∧ Row w' b2 1 (fun _ => .int .i64 y) ∧ Row w' w.heap.size 2 (fun i => if i = 0 then .int .i64 ox else .int .i64 oy)) → w'.cell? ⟨b2, 0, none⟩ = some (.int .i64 y) := fun w' hh => (hh.2.1).cell (i := 0) (by omega)
    have PL0 : ∀ w', (Row w' b1 1 (fun _ => .int .i64 g) ∧ Row w' b2 1 (fun _ => .int .i64 y) ∧ Row w' w.heap.size 2 (fun i => if i = 0 then .int .i64 ox else .int .i64 oy)) → w'.cell? ⟨w.heap.size, 0, none⟩ = some (.int .i64 ox) := fun w' hh => (get2 hh.2.2).1
    have PL1 : ∀ w', (Row w' b1 1 (fun _ => .int .i64 g) ∧ Row w' b2 1 (fun _ => .int .i64 y) ∧ Row w' w.heap.size 2 (fun i => if i = 0 then .int .i64 ox else .int .i64 oy)) → w'.cell? ⟨w.heap.size, 1, none⟩ = some (.int .i64 oy) := fun w' hh => (get2 hh.2.2).2
    obtain ⟨t0, t1⟩ := get2 HR.out
    have f0 := HR.out.frozen 0
    have f1 := HR.out.frozen 1
    refine wp_region_noPanic ?_
    refine wp_region_held_drew (S := fun w' => Row w' b1 1 (fun _ => .int .i64 g) ∧ Row w' b2 1 (fun _ => .int .i64 y) ∧ Row w' w.heap.size 2 (fun i => if i = 0 then .int .i64 ox else .int .i64 oy)) (by kernel_rfl) ⟨Hb1.out, Hb2.out, HL.out⟩ (fun hB => ?_)
    clear hB
    generalize W.drew = wd at *
    refine wpAnyH_take (i := 0) (oi := { dst := some 6, op := Op.load 3 (Operand.tmp 1), type := 3, pos := _, after := #[], guard := none }) (v := (.int .i64 g)) rfl (by kernel_rfl) (by kernel_rfl) (by kernel_rfl) (fun _ _ _ h => h) (Or.inl ⟨by rfl, fun w' hS => by (try dsimp only at hS); go_simp⟩) ⟨Hb1.out, Hb2.out, HL.out⟩ ?_
    simp only [Act.put, List.setIfInBounds_toArray, List.set_cons_zero, List.set_cons_succ]
    refine wpAnyH_take (i := 1) (oi := { dst := some 7, op := Op.load 3 (Operand.tmp 2), type := 3, pos := _, after := #[], guard := none }) (v := (.int .i64 y)) rfl (by kernel_rfl) (by kernel_rfl) (by kernel_rfl) (fun _ _ _ h => h) (Or.inl ⟨by rfl, fun w' hS => by (try dsimp only at hS); go_simp⟩) ⟨Hb1.out, Hb2.out, HL.out⟩ ?_
    simp only [Act.put, List.setIfInBounds_toArray, List.set_cons_zero, List.set_cons_succ]
    refine wpAnyH_take (i := 3) (oi := { dst := some 9, op := Op.fieldAddr 78 (Operand.tmp 3) 1, type := 0, pos := _, after := #[], guard := none }) (v := (.pointer (some ⟨w.heap.size, 1, none⟩))) rfl (by kernel_rfl) (by kernel_rfl) (by kernel_rfl) (fun _ _ _ h => h) (Or.inl ⟨by rfl, fun w' hS => by (try dsimp only at hS); go_simp⟩) ⟨Hb1.out, Hb2.out, HL.out⟩ ?_
    simp only [Act.put, List.setIfInBounds_toArray, List.set_cons_zero, List.set_cons_succ]
    refine wpAnyH_take (i := 2) (oi := { dst := some 8, op := Op.build 78 #[(0, Operand.tmp 6), (1, Operand.tmp 7)], type := 78, pos := _, after := #[{ on := 0, ground := Ground.data }, { on := 1, ground := Ground.data }], guard := none }) (v := (.agg #[.int .i64 g, .int .i64 y])) rfl (by kernel_rfl) (by kernel_rfl) (by kernel_rfl) (fun _ _ _ h => h) (Or.inl ⟨by rfl, fun w' hS => by (try dsimp only at hS); go_simp⟩) ⟨Hb1.out, Hb2.out, HL.out⟩ ?_
    simp only [Act.put, List.setIfInBounds_toArray, List.set_cons_zero, List.set_cons_succ]
    refine wpAnyH_take (i := 4) (oi := { dst := some 10, op := Op.load 3 (Operand.tmp 9), type := 3, pos := _, after := #[{ on := 3, ground := Ground.data }], guard := none }) (v := (.int .i64 oy)) rfl (by kernel_rfl) (by kernel_rfl) (by kernel_rfl) (fun _ _ _ h => h) (Or.inl ⟨by rfl, fun w' hS => by (try dsimp only at hS); go_simp⟩) ⟨Hb1.out, Hb2.out, HL.out⟩ ?_
    simp only [Act.put, List.setIfInBounds_toArray, List.set_cons_zero, List.set_cons_succ]
    refine wpAnyH_take (i := 5) (oi := { dst := some 11, op := Op.binOp BinOp.eql 3 (Operand.tmp 10) (Operand.const (Value.int IntKind.i64 0)) 3, type := 4, pos := _, after := #[{ on := 4, ground := Ground.data }], guard := none }) (v := (.bool false)) rfl (by kernel_rfl) (by kernel_rfl) (by kernel_rfl) (fun _ _ _ h => h) (Or.inl ⟨by rfl, fun w' hS => by (try dsimp only at hS); go_simp⟩) ⟨Hb1.out, Hb2.out, HL.out⟩ ?_
    simp only [Act.put, List.setIfInBounds_toArray, List.set_cons_zero, List.set_cons_succ]
    refine wpAnyH_take (i := 6) (oi := { dst := some 12, op := Op.move (Operand.tmp 11), type := 4, pos := _, after := #[{ on := 5, ground := Ground.data }], guard := none }) (v := (.bool false)) rfl (by kernel_rfl) (by kernel_rfl) (by kernel_rfl) (fun _ _ _ h => h) (Or.inl ⟨by rfl, fun w' hS => by (try dsimp only at hS); go_simp⟩) ⟨Hb1.out, Hb2.out, HL.out⟩ ?_
    simp only [Act.put, List.setIfInBounds_toArray, List.set_cons_zero, List.set_cons_succ]
    refine wpAnyH_take (i := 7) (oi := { dst := some 13, op := Op.load 3 (Operand.tmp 1), type := 3, pos := _, after := #[{ on := 6, ground := Ground.guard }], guard := some (6, true) }) (v := undef) rfl (by kernel_rfl) (by kernel_rfl) (by kernel_rfl) (fun _ _ _ h => h) (Or.inr ⟨by rfl, rfl⟩) ⟨Hb1.out, Hb2.out, HL.out⟩ ?_
    simp only [Act.put, List.setIfInBounds_toArray, List.set_cons_zero, List.set_cons_succ]
    refine wpAnyH_take (i := 8) (oi := { dst := some 14, op := Op.call { callee := Callee.value (Operand.func 54), args := #[Operand.tmp 13], argTypes := #[3] }, type := 4, pos := _, after := #[{ on := 7, ground := Ground.data }, { on := 6, ground := Ground.chain }, { on := 6, ground := Ground.guard }], guard := some (6, true) }) (v := undef) rfl (by kernel_rfl) (by kernel_rfl) (by kernel_rfl) (fun _ _ _ h => h) (Or.inr ⟨by rfl, rfl⟩) ⟨Hb1.out, Hb2.out, HL.out⟩ ?_
    simp only [Act.put, List.setIfInBounds_toArray, List.set_cons_zero, List.set_cons_succ]
    refine wpAnyH_take (i := 9) (oi := { dst := some 15, op := Op.pick (Operand.tmp 12) (Operand.tmp 14) (Operand.const (Value.bool false)), type := 4, pos := _, after := #[{ on := 6, ground := Ground.data }, { on := 8, ground := Ground.data }], guard := none }) (v := (.bool false)) rfl (by kernel_rfl) (by kernel_rfl) (by kernel_rfl) (fun _ _ _ h => h) (Or.inl ⟨by rfl, fun w' hS => by (try dsimp only at hS); go_simp⟩) ⟨Hb1.out, Hb2.out, HL.out⟩ ?_
    simp only [Act.put, List.setIfInBounds_toArray, List.set_cons_zero, List.set_cons_succ]
    refine wpAnyH_take (i := 10) (oi := { dst := some 16, op := Op.move (Operand.tmp 15), type := 4, pos := _, after := #[{ on := 9, ground := Ground.data }, { on := 8, ground := Ground.chain }], guard := none }) (v := (.bool false)) rfl (by kernel_rfl) (by kernel_rfl) (by kernel_rfl) (fun _ _ _ h => h) (Or.inl ⟨by rfl, fun w' hS => by (try dsimp only at hS); go_simp⟩) ⟨Hb1.out, Hb2.out, HL.out⟩ ?_
    simp only [Act.put, List.setIfInBounds_toArray, List.set_cons_zero, List.set_cons_succ]
    refine wpAnyH_take (i := 11) (oi := { dst := some 17, op := Op.load 3 (Operand.tmp 2), type := 3, pos := _, after := #[{ on := 10, ground := Ground.guard }], guard := some (10, true) }) (v := undef) rfl (by kernel_rfl) (by kernel_rfl) (by kernel_rfl) (fun _ _ _ h => h) (Or.inr ⟨by rfl, rfl⟩) ⟨Hb1.out, Hb2.out, HL.out⟩ ?_
    simp only [Act.put, List.setIfInBounds_toArray, List.set_cons_zero, List.set_cons_succ]
    refine wpAnyH_take (i := 12) (oi := { dst := some 18, op := Op.call { callee := Callee.value (Operand.func 55), args := #[Operand.tmp 17], argTypes := #[3] }, type := 4, pos := _, after := #[{ on := 11, ground := Ground.data }, { on := 10, ground := Ground.chain }, { on := 10, ground := Ground.guard }], guard := some (10, true) }) (v := undef) rfl (by kernel_rfl) (by kernel_rfl) (by kernel_rfl) (fun _ _ _ h => h) (Or.inr ⟨by rfl, rfl⟩) ⟨Hb1.out, Hb2.out, HL.out⟩ ?_
    simp only [Act.put, List.setIfInBounds_toArray, List.set_cons_zero, List.set_cons_succ]
    refine wpAnyH_take (i := 13) (oi := { dst := some 19, op := Op.pick (Operand.tmp 16) (Operand.tmp 18) (Operand.const (Value.bool false)), type := 4, pos := _, after := #[{ on := 10, ground := Ground.data }, { on := 12, ground := Ground.data }, { on := 14, ground := Ground.gcOnly Departure.lateStores }], guard := none }) (v := (.bool false)) rfl (by kernel_rfl) (by kernel_rfl) (by kernel_rfl) (fun _ _ _ h => h) (Or.inl ⟨by rfl, fun w' hS => by (try dsimp only at hS); go_simp⟩) ⟨Hb1.out, Hb2.out, HL.out⟩ ?_
    simp only [Act.put, List.setIfInBounds_toArray, List.set_cons_zero, List.set_cons_succ]
    refine wpAnyH_ready (rs := [14]) (by kernel_rfl) (by simp) ?_
    refine AllReadyH.cons (o := { dst := none, op := Op.store 78 (Operand.tmp 4) (Operand.tmp 8), type := 0, pos := _, after := #[{ on := 2, ground := Ground.data }, { on := 12, ground := Ground.chain }, { on := 0, ground := Ground.phase }, { on := 1, ground := Ground.phase }, { on := 2, ground := Ground.phase }, { on := 3, ground := Ground.textOnly Departure.lateStores }, { on := 4, ground := Ground.textOnly Departure.lateStores }, { on := 5, ground := Ground.textOnly Departure.lateStores }, { on := 6, ground := Ground.textOnly Departure.lateStores }, { on := 7, ground := Ground.textOnly Departure.lateStores }, { on := 8, ground := Ground.textOnly Departure.lateStoresUnsure }, { on := 9, ground := Ground.textOnly Departure.lateStores }, { on := 10, ground := Ground.textOnly Departure.lateStores }, { on := 11, ground := Ground.textOnly Departure.lateStores }, { on := 12, ground := Ground.textOnly Departure.lateStoresUnsure }, { on := 13, ground := Ground.textOnly Departure.lateStores }], guard := none }) rfl (fun K hK => ?_) AllReadyH.nil
    go_simp
    have hSt := (And.intro ((Hb1.out.setOther (a := ⟨w.heap.size + 1, 0, none⟩) (by show b1 ≠ w.heap.size + 1; omega) (.int .i64 g)).setOther (a := ⟨w.heap.size + 1, 1, none⟩) (by show b1 ≠ w.heap.size + 1; omega) (.int .i64 y)) (And.intro ((Hb2.out.setOther (a := ⟨w.heap.size + 1, 0, none⟩) (by show b2 ≠ w.heap.size + 1; omega) (.int .i64 g)).setOther (a := ⟨w.heap.size + 1, 1, none⟩) (by show b2 ≠ w.heap.size + 1; omega) (.int .i64 y)) ((HL.out.setOther (a := ⟨w.heap.size + 1, 0, none⟩) (by show w.heap.size ≠ w.heap.size + 1; omega) (.int .i64 g)).setOther (a := ⟨w.heap.size + 1, 1, none⟩) (by show w.heap.size ≠ w.heap.size + 1; omega) (.int .i64 y))))
    refine hK.out _ _ hSt (fun hB => ?_)
    clear hK K hB
    try simp only [Act.put, List.setIfInBounds_toArray, List.set_cons_zero, List.set_cons_succ]
    refine wpAnyH_take (i := 15) (oi := { dst := some 5, op := Op.assign (Operand.tmp 19), type := 4, pos := _, after := #[{ on := 13, ground := Ground.data }, { on := 14, ground := Ground.chain }, { on := 0, ground := Ground.phase }, { on := 1, ground := Ground.phase }, { on := 2, ground := Ground.phase }, { on := 3, ground := Ground.phase }, { on := 4, ground := Ground.phase }, { on := 5, ground := Ground.phase }, { on := 6, ground := Ground.phase }, { on := 7, ground := Ground.phase }, { on := 8, ground := Ground.phase }, { on := 9, ground := Ground.phase }, { on := 10, ground := Ground.phase }, { on := 11, ground := Ground.phase }, { on := 12, ground := Ground.phase }, { on := 13, ground := Ground.phase }, { on := 14, ground := Ground.phase }], guard := none }) (v := (.bool false)) rfl (by kernel_rfl) (by kernel_rfl) (by kernel_rfl) (fun _ _ _ h => h) (Or.inl ⟨by rfl, fun w' hS => by (try dsimp only at hS); go_simp⟩) hSt ?_
    simp only [Act.put, List.setIfInBounds_toArray, List.set_cons_zero, List.set_cons_succ]
    refine wpAnyH_done (by kernel_rfl) ?_ _
    refine NoPanic.normal ?_
    have HBF : Hid _ := set2_blw HB.out (B := w.heap.size + 1) (by omega) (.int .i64 g) (.int .i64 y)
    clear hSt HL HR HB PL0 PL1 Hb1 Pb1 Hb2 Pb2
    go_wp2
    exact bodyPost_ret (v := .tuple #[.agg #[.int .i64 g, .int .i64 y], .bool false]) (by simp [results, Try.results53, go_sem, t0, t1]) rfl ⟨false, rfl, iff_f HN.out, HBF.out⟩
  have d1 : (oy == 0) = true := by simp [h0]
  have H0 : Hid (oy = 0) := h0
  clear h0
  by_cases hp : pgOK g
  case neg =>
    have HP : Hid (¬ pgOK g) := hp
    have HN : Hid (¬ (oy = 0 ∧ pgOK g ∧ mayOK y)) := fun q => hp q.2.1
    clear hp
    go_upto_region 1 with fail
    generalize ((w.alloc (.cells #[.int .i64 ox, .int .i64 oy] 78)).alloc (.cells #[.int .i64 0, .int .i64 0] 78)) = W at *
    replace Hb1 : Hid (Row W.drew b1 1 (fun _ => .int .i64 g)) := Hb1.out.blw (Blw.refl _).drew
    replace Hb2 : Hid (Row W.drew b2 1 (fun _ => .int .i64 y)) := Hb2.out.blw (Blw.refl _).drew
    replace HL : Hid (Row W.drew w.heap.size 2 (fun i => if i = 0 then .int .i64 ox else .int .i64 oy)) := HL.out.blw (Blw.refl _).drew
    replace HR : Hid (Row W.drew (w.heap.size + 1) 2 (fun i => if i = 0 then .int .i64 0 else .int .i64 0)) := HR.out.blw (Blw.refl _).drew
    replace HB : Hid (Blw w W.drew) := HB.out.drew
    have Pb1 : ∀ w', (Row w' b1 1 (fun _ => .int .i64 g) ∧ Row w' b2 1 (fun _ => .int .i64 y) ∧ Row w' w.heap.size 2 (fun i => if i = 0 then .int .i64 ox else .int .i64 oy)) → w'.cell? ⟨b1, 0, none⟩ = some (.int .i64 g) := fun w' hh => (hh.1).cell (i := 0) (by omega)
    have Pb2 : ∀ w', (Row w' b1 1 (fun _ => .int .i64 g) ∧ Row w' b2 1 (fun _ => .int .i64 y) ∧ Row w' w.heap.size 2 (fun i => if i = 0 then .int .i64 ox else .int .i64 oy)) → w'.cell? ⟨b2, 0, none⟩ = some (.int .i64 y) := fun w' hh => (hh.2.1).cell (i := 0) (by omega)
    have PL0 : ∀ w', (Row w' b1 1 (fun _ => .int .i64 g) ∧ Row w' b2 1 (fun _ => .int .i64 y) ∧ Row w' w.heap.size 2 (fun i => if i = 0 then .int .i64 ox else .int .i64 oy)) → w'.cell? ⟨w.heap.size, 0, none⟩ = some (.int .i64 ox) := fun w' hh => (get2 hh.2.2).1
    have PL1 : ∀ w', (Row w' b1 1 (fun _ => .int .i64 g) ∧ Row w' b2 1 (fun _ => .int .i64 y) ∧ Row w' w.heap.size 2 (fun i => if i = 0 then .int .i64 ox else .int .i64 oy)) → w'.cell? ⟨w.heap.size, 1, none⟩ = some (.int .i64 oy) := fun w' hh => (get2 hh.2.2).2
    obtain ⟨t0, t1⟩ := get2 HR.out
    have f0 := HR.out.frozen 0
    have f1 := HR.out.frozen 1
    refine wp_region_noPanic ?_
    refine wp_region_held_drew (S := fun w' => Row w' b1 1 (fun _ => .int .i64 g) ∧ Row w' b2 1 (fun _ => .int .i64 y) ∧ Row w' w.heap.size 2 (fun i => if i = 0 then .int .i64 ox else .int .i64 oy)) (by kernel_rfl) ⟨Hb1.out, Hb2.out, HL.out⟩ (fun hB => ?_)
    clear hB
    generalize W.drew = wd at *
    refine wpAnyH_take (i := 0) (oi := { dst := some 6, op := Op.load 3 (Operand.tmp 1), type := 3, pos := _, after := #[], guard := none }) (v := (.int .i64 g)) rfl (by kernel_rfl) (by kernel_rfl) (by kernel_rfl) (fun _ _ _ h => h) (Or.inl ⟨by rfl, fun w' hS => by (try dsimp only at hS); go_simp⟩) ⟨Hb1.out, Hb2.out, HL.out⟩ ?_
    simp only [Act.put, List.setIfInBounds_toArray, List.set_cons_zero, List.set_cons_succ]
    refine wpAnyH_take (i := 1) (oi := { dst := some 7, op := Op.load 3 (Operand.tmp 2), type := 3, pos := _, after := #[], guard := none }) (v := (.int .i64 y)) rfl (by kernel_rfl) (by kernel_rfl) (by kernel_rfl) (fun _ _ _ h => h) (Or.inl ⟨by rfl, fun w' hS => by (try dsimp only at hS); go_simp⟩) ⟨Hb1.out, Hb2.out, HL.out⟩ ?_
    simp only [Act.put, List.setIfInBounds_toArray, List.set_cons_zero, List.set_cons_succ]
    refine wpAnyH_take (i := 3) (oi := { dst := some 9, op := Op.fieldAddr 78 (Operand.tmp 3) 1, type := 0, pos := _, after := #[], guard := none }) (v := (.pointer (some ⟨w.heap.size, 1, none⟩))) rfl (by kernel_rfl) (by kernel_rfl) (by kernel_rfl) (fun _ _ _ h => h) (Or.inl ⟨by rfl, fun w' hS => by (try dsimp only at hS); go_simp⟩) ⟨Hb1.out, Hb2.out, HL.out⟩ ?_
    simp only [Act.put, List.setIfInBounds_toArray, List.set_cons_zero, List.set_cons_succ]
    refine wpAnyH_take (i := 2) (oi := { dst := some 8, op := Op.build 78 #[(0, Operand.tmp 6), (1, Operand.tmp 7)], type := 78, pos := _, after := #[{ on := 0, ground := Ground.data }, { on := 1, ground := Ground.data }], guard := none }) (v := (.agg #[.int .i64 g, .int .i64 y])) rfl (by kernel_rfl) (by kernel_rfl) (by kernel_rfl) (fun _ _ _ h => h) (Or.inl ⟨by rfl, fun w' hS => by (try dsimp only at hS); go_simp⟩) ⟨Hb1.out, Hb2.out, HL.out⟩ ?_
    simp only [Act.put, List.setIfInBounds_toArray, List.set_cons_zero, List.set_cons_succ]
    refine wpAnyH_take (i := 4) (oi := { dst := some 10, op := Op.load 3 (Operand.tmp 9), type := 3, pos := _, after := #[{ on := 3, ground := Ground.data }], guard := none }) (v := (.int .i64 oy)) rfl (by kernel_rfl) (by kernel_rfl) (by kernel_rfl) (fun _ _ _ h => h) (Or.inl ⟨by rfl, fun w' hS => by (try dsimp only at hS); go_simp⟩) ⟨Hb1.out, Hb2.out, HL.out⟩ ?_
    simp only [Act.put, List.setIfInBounds_toArray, List.set_cons_zero, List.set_cons_succ]
    refine wpAnyH_take (i := 5) (oi := { dst := some 11, op := Op.binOp BinOp.eql 3 (Operand.tmp 10) (Operand.const (Value.int IntKind.i64 0)) 3, type := 4, pos := _, after := #[{ on := 4, ground := Ground.data }], guard := none }) (v := (.bool true)) rfl (by kernel_rfl) (by kernel_rfl) (by kernel_rfl) (fun _ _ _ h => h) (Or.inl ⟨by rfl, fun w' hS => by (try dsimp only at hS); go_simp⟩) ⟨Hb1.out, Hb2.out, HL.out⟩ ?_
    simp only [Act.put, List.setIfInBounds_toArray, List.set_cons_zero, List.set_cons_succ]
    refine wpAnyH_take (i := 6) (oi := { dst := some 12, op := Op.move (Operand.tmp 11), type := 4, pos := _, after := #[{ on := 5, ground := Ground.data }], guard := none }) (v := (.bool true)) rfl (by kernel_rfl) (by kernel_rfl) (by kernel_rfl) (fun _ _ _ h => h) (Or.inl ⟨by rfl, fun w' hS => by (try dsimp only at hS); go_simp⟩) ⟨Hb1.out, Hb2.out, HL.out⟩ ?_
    simp only [Act.put, List.setIfInBounds_toArray, List.set_cons_zero, List.set_cons_succ]
    refine wpAnyH_take (i := 7) (oi := { dst := some 13, op := Op.load 3 (Operand.tmp 1), type := 3, pos := _, after := #[{ on := 6, ground := Ground.guard }], guard := some (6, true) }) (v := (.int .i64 g)) rfl (by kernel_rfl) (by kernel_rfl) (by kernel_rfl) (fun _ _ _ h => h) (Or.inl ⟨by rfl, fun w' hS => by (try dsimp only at hS); go_simp⟩) ⟨Hb1.out, Hb2.out, HL.out⟩ ?_
    simp only [Act.put, List.setIfInBounds_toArray, List.set_cons_zero, List.set_cons_succ]
    refine wpAnyH_ready (rs := [8]) (by kernel_rfl) (by simp) ?_
    refine AllReadyH.cons (o := { dst := some 14, op := Op.call { callee := Callee.value (Operand.func 54), args := #[Operand.tmp 13], argTypes := #[3] }, type := 4, pos := _, after := #[{ on := 7, ground := Ground.data }, { on := 6, ground := Ground.chain }, { on := 6, ground := Ground.guard }], guard := some (6, true) }) rfl (fun K hK => ?_) AllReadyH.nil
    go_simp
    refine (isPage_no g _ HP.out).mono ?_
    rintro e w1 ⟨rfl, rfl⟩
    refine hK.out _ _ ⟨Hb1.out, Hb2.out, HL.out⟩ (fun hB => ?_)
    clear hK K hB
    try simp only [Act.put, List.setIfInBounds_toArray, List.set_cons_zero, List.set_cons_succ]
    refine wpAnyH_take (i := 9) (oi := { dst := some 15, op := Op.pick (Operand.tmp 12) (Operand.tmp 14) (Operand.const (Value.bool false)), type := 4, pos := _, after := #[{ on := 6, ground := Ground.data }, { on := 8, ground := Ground.data }], guard := none }) (v := (.bool false)) rfl (by kernel_rfl) (by kernel_rfl) (by kernel_rfl) (fun _ _ _ h => h) (Or.inl ⟨by rfl, fun w' hS => by (try dsimp only at hS); go_simp⟩) ⟨Hb1.out, Hb2.out, HL.out⟩ ?_
    simp only [Act.put, List.setIfInBounds_toArray, List.set_cons_zero, List.set_cons_succ]
    refine wpAnyH_take (i := 10) (oi := { dst := some 16, op := Op.move (Operand.tmp 15), type := 4, pos := _, after := #[{ on := 9, ground := Ground.data }, { on := 8, ground := Ground.chain }], guard := none }) (v := (.bool false)) rfl (by kernel_rfl) (by kernel_rfl) (by kernel_rfl) (fun _ _ _ h => h) (Or.inl ⟨by rfl, fun w' hS => by (try dsimp only at hS); go_simp⟩) ⟨Hb1.out, Hb2.out, HL.out⟩ ?_
    simp only [Act.put, List.setIfInBounds_toArray, List.set_cons_zero, List.set_cons_succ]
    refine wpAnyH_take (i := 11) (oi := { dst := some 17, op := Op.load 3 (Operand.tmp 2), type := 3, pos := _, after := #[{ on := 10, ground := Ground.guard }], guard := some (10, true) }) (v := undef) rfl (by kernel_rfl) (by kernel_rfl) (by kernel_rfl) (fun _ _ _ h => h) (Or.inr ⟨by rfl, rfl⟩) ⟨Hb1.out, Hb2.out, HL.out⟩ ?_
    simp only [Act.put, List.setIfInBounds_toArray, List.set_cons_zero, List.set_cons_succ]
    refine wpAnyH_take (i := 12) (oi := { dst := some 18, op := Op.call { callee := Callee.value (Operand.func 55), args := #[Operand.tmp 17], argTypes := #[3] }, type := 4, pos := _, after := #[{ on := 11, ground := Ground.data }, { on := 10, ground := Ground.chain }, { on := 10, ground := Ground.guard }], guard := some (10, true) }) (v := undef) rfl (by kernel_rfl) (by kernel_rfl) (by kernel_rfl) (fun _ _ _ h => h) (Or.inr ⟨by rfl, rfl⟩) ⟨Hb1.out, Hb2.out, HL.out⟩ ?_
    simp only [Act.put, List.setIfInBounds_toArray, List.set_cons_zero, List.set_cons_succ]
    refine wpAnyH_take (i := 13) (oi := { dst := some 19, op := Op.pick (Operand.tmp 16) (Operand.tmp 18) (Operand.const (Value.bool false)), type := 4, pos := _, after := #[{ on := 10, ground := Ground.data }, { on := 12, ground := Ground.data }, { on := 14, ground := Ground.gcOnly Departure.lateStores }], guard := none }) (v := (.bool false)) rfl (by kernel_rfl) (by kernel_rfl) (by kernel_rfl) (fun _ _ _ h => h) (Or.inl ⟨by rfl, fun w' hS => by (try dsimp only at hS); go_simp⟩) ⟨Hb1.out, Hb2.out, HL.out⟩ ?_
    simp only [Act.put, List.setIfInBounds_toArray, List.set_cons_zero, List.set_cons_succ]
    refine wpAnyH_ready (rs := [14]) (by kernel_rfl) (by simp) ?_
    refine AllReadyH.cons (o := { dst := none, op := Op.store 78 (Operand.tmp 4) (Operand.tmp 8), type := 0, pos := _, after := #[{ on := 2, ground := Ground.data }, { on := 12, ground := Ground.chain }, { on := 0, ground := Ground.phase }, { on := 1, ground := Ground.phase }, { on := 2, ground := Ground.phase }, { on := 3, ground := Ground.textOnly Departure.lateStores }, { on := 4, ground := Ground.textOnly Departure.lateStores }, { on := 5, ground := Ground.textOnly Departure.lateStores }, { on := 6, ground := Ground.textOnly Departure.lateStores }, { on := 7, ground := Ground.textOnly Departure.lateStores }, { on := 8, ground := Ground.textOnly Departure.lateStoresUnsure }, { on := 9, ground := Ground.textOnly Departure.lateStores }, { on := 10, ground := Ground.textOnly Departure.lateStores }, { on := 11, ground := Ground.textOnly Departure.lateStores }, { on := 12, ground := Ground.textOnly Departure.lateStoresUnsure }, { on := 13, ground := Ground.textOnly Departure.lateStores }], guard := none }) rfl (fun K hK => ?_) AllReadyH.nil
    go_simp
    have hSt := (And.intro ((Hb1.out.setOther (a := ⟨w.heap.size + 1, 0, none⟩) (by show b1 ≠ w.heap.size + 1; omega) (.int .i64 g)).setOther (a := ⟨w.heap.size + 1, 1, none⟩) (by show b1 ≠ w.heap.size + 1; omega) (.int .i64 y)) (And.intro ((Hb2.out.setOther (a := ⟨w.heap.size + 1, 0, none⟩) (by show b2 ≠ w.heap.size + 1; omega) (.int .i64 g)).setOther (a := ⟨w.heap.size + 1, 1, none⟩) (by show b2 ≠ w.heap.size + 1; omega) (.int .i64 y)) ((HL.out.setOther (a := ⟨w.heap.size + 1, 0, none⟩) (by show w.heap.size ≠ w.heap.size + 1; omega) (.int .i64 g)).setOther (a := ⟨w.heap.size + 1, 1, none⟩) (by show w.heap.size ≠ w.heap.size + 1; omega) (.int .i64 y))))
    refine hK.out _ _ hSt (fun hB => ?_)
    clear hK K hB
    try simp only [Act.put, List.setIfInBounds_toArray, List.set_cons_zero, List.set_cons_succ]
    refine wpAnyH_take (i := 15) (oi := { dst := some 5, op := Op.assign (Operand.tmp 19), type := 4, pos := _, after := #[{ on := 13, ground := Ground.data }, { on := 14, ground := Ground.chain }, { on := 0, ground := Ground.phase }, { on := 1, ground := Ground.phase }, { on := 2, ground := Ground.phase }, { on := 3, ground := Ground.phase }, { on := 4, ground := Ground.phase }, { on := 5, ground := Ground.phase }, { on := 6, ground := Ground.phase }, { on := 7, ground := Ground.phase }, { on := 8, ground := Ground.phase }, { on := 9, ground := Ground.phase }, { on := 10, ground := Ground.phase }, { on := 11, ground := Ground.phase }, { on := 12, ground := Ground.phase }, { on := 13, ground := Ground.phase }, { on := 14, ground := Ground.phase }], guard := none }) (v := (.bool false)) rfl (by kernel_rfl) (by kernel_rfl) (by kernel_rfl) (fun _ _ _ h => h) (Or.inl ⟨by rfl, fun w' hS => by (try dsimp only at hS); go_simp⟩) hSt ?_
    simp only [Act.put, List.setIfInBounds_toArray, List.set_cons_zero, List.set_cons_succ]
    refine wpAnyH_done (by kernel_rfl) ?_ _
    refine NoPanic.normal ?_
    have HBF : Hid _ := set2_blw HB.out (B := w.heap.size + 1) (by omega) (.int .i64 g) (.int .i64 y)
    clear hSt HL HR HB PL0 PL1 Hb1 Pb1 Hb2 Pb2
    go_wp2
    exact bodyPost_ret (v := .tuple #[.agg #[.int .i64 g, .int .i64 y], .bool false]) (by simp [results, Try.results53, go_sem, t0, t1]) rfl ⟨false, rfl, iff_f HN.out, HBF.out⟩
  have HP : Hid (pgOK g) := hp
  clear hp
  go_upto_region 1 with fail
  generalize ((w.alloc (.cells #[.int .i64 ox, .int .i64 oy] 78)).alloc (.cells #[.int .i64 0, .int .i64 0] 78)) = W at *
  replace Hb1 : Hid (Row W.drew b1 1 (fun _ => .int .i64 g)) := Hb1.out.blw (Blw.refl _).drew
  replace Hb2 : Hid (Row W.drew b2 1 (fun _ => .int .i64 y)) := Hb2.out.blw (Blw.refl _).drew
  replace HL : Hid (Row W.drew w.heap.size 2 (fun i => if i = 0 then .int .i64 ox else .int .i64 oy)) := HL.out.blw (Blw.refl _).drew
  replace HR : Hid (Row W.drew (w.heap.size + 1) 2 (fun i => if i = 0 then .int .i64 0 else .int .i64 0)) := HR.out.blw (Blw.refl _).drew
  replace HB : Hid (Blw w W.drew) := HB.out.drew
  have Pb1 : ∀ w', (Row w' b1 1 (fun _ => .int .i64 g) ∧ Row w' b2 1 (fun _ => .int .i64 y) ∧ Row w' w.heap.size 2 (fun i => if i = 0 then .int .i64 ox else .int .i64 oy)) → w'.cell? ⟨b1, 0, none⟩ = some (.int .i64 g) := fun w' hh => (hh.1).cell (i := 0) (by omega)
  have Pb2 : ∀ w', (Row w' b1 1 (fun _ => .int .i64 g) ∧ Row w' b2 1 (fun _ => .int .i64 y) ∧ Row w' w.heap.size 2 (fun i => if i = 0 then .int .i64 ox else .int .i64 oy)) → w'.cell? ⟨b2, 0, none⟩ = some (.int .i64 y) := fun w' hh => (hh.2.1).cell (i := 0) (by omega)
  have PL0 : ∀ w', (Row w' b1 1 (fun _ => .int .i64 g) ∧ Row w' b2 1 (fun _ => .int .i64 y) ∧ Row w' w.heap.size 2 (fun i => if i = 0 then .int .i64 ox else .int .i64 oy)) → w'.cell? ⟨w.heap.size, 0, none⟩ = some (.int .i64 ox) := fun w' hh => (get2 hh.2.2).1
  have PL1 : ∀ w', (Row w' b1 1 (fun _ => .int .i64 g) ∧ Row w' b2 1 (fun _ => .int .i64 y) ∧ Row w' w.heap.size 2 (fun i => if i = 0 then .int .i64 ox else .int .i64 oy)) → w'.cell? ⟨w.heap.size, 1, none⟩ = some (.int .i64 oy) := fun w' hh => (get2 hh.2.2).2
  obtain ⟨t0, t1⟩ := get2 HR.out
  have f0 := HR.out.frozen 0
  have f1 := HR.out.frozen 1
  refine wp_region_noPanic ?_
  refine wp_region_held_drew (S := fun w' => Row w' b1 1 (fun _ => .int .i64 g) ∧ Row w' b2 1 (fun _ => .int .i64 y) ∧ Row w' w.heap.size 2 (fun i => if i = 0 then .int .i64 ox else .int .i64 oy)) (by kernel_rfl) ⟨Hb1.out, Hb2.out, HL.out⟩ (fun hB => ?_)
  clear hB
  generalize W.drew = wd at *
  refine wpAnyH_take (i := 0) (oi := { dst := some 6, op := Op.load 3 (Operand.tmp 1), type := 3, pos := _, after := #[], guard := none }) (v := (.int .i64 g)) rfl (by kernel_rfl) (by kernel_rfl) (by kernel_rfl) (fun _ _ _ h => h) (Or.inl ⟨by rfl, fun w' hS => by (try dsimp only at hS); go_simp⟩) ⟨Hb1.out, Hb2.out, HL.out⟩ ?_
  simp only [Act.put, List.setIfInBounds_toArray, List.set_cons_zero, List.set_cons_succ]
  refine wpAnyH_take (i := 1) (oi := { dst := some 7, op := Op.load 3 (Operand.tmp 2), type := 3, pos := _, after := #[], guard := none }) (v := (.int .i64 y)) rfl (by kernel_rfl) (by kernel_rfl) (by kernel_rfl) (fun _ _ _ h => h) (Or.inl ⟨by rfl, fun w' hS => by (try dsimp only at hS); go_simp⟩) ⟨Hb1.out, Hb2.out, HL.out⟩ ?_
  simp only [Act.put, List.setIfInBounds_toArray, List.set_cons_zero, List.set_cons_succ]
  refine wpAnyH_take (i := 3) (oi := { dst := some 9, op := Op.fieldAddr 78 (Operand.tmp 3) 1, type := 0, pos := _, after := #[], guard := none }) (v := (.pointer (some ⟨w.heap.size, 1, none⟩))) rfl (by kernel_rfl) (by kernel_rfl) (by kernel_rfl) (fun _ _ _ h => h) (Or.inl ⟨by rfl, fun w' hS => by (try dsimp only at hS); go_simp⟩) ⟨Hb1.out, Hb2.out, HL.out⟩ ?_
  simp only [Act.put, List.setIfInBounds_toArray, List.set_cons_zero, List.set_cons_succ]
  refine wpAnyH_take (i := 2) (oi := { dst := some 8, op := Op.build 78 #[(0, Operand.tmp 6), (1, Operand.tmp 7)], type := 78, pos := _, after := #[{ on := 0, ground := Ground.data }, { on := 1, ground := Ground.data }], guard := none }) (v := (.agg #[.int .i64 g, .int .i64 y])) rfl (by kernel_rfl) (by kernel_rfl) (by kernel_rfl) (fun _ _ _ h => h) (Or.inl ⟨by rfl, fun w' hS => by (try dsimp only at hS); go_simp⟩) ⟨Hb1.out, Hb2.out, HL.out⟩ ?_
  simp only [Act.put, List.setIfInBounds_toArray, List.set_cons_zero, List.set_cons_succ]
  refine wpAnyH_take (i := 4) (oi := { dst := some 10, op := Op.load 3 (Operand.tmp 9), type := 3, pos := _, after := #[{ on := 3, ground := Ground.data }], guard := none }) (v := (.int .i64 oy)) rfl (by kernel_rfl) (by kernel_rfl) (by kernel_rfl) (fun _ _ _ h => h) (Or.inl ⟨by rfl, fun w' hS => by (try dsimp only at hS); go_simp⟩) ⟨Hb1.out, Hb2.out, HL.out⟩ ?_
  simp only [Act.put, List.setIfInBounds_toArray, List.set_cons_zero, List.set_cons_succ]
  refine wpAnyH_take (i := 5) (oi := { dst := some 11, op := Op.binOp BinOp.eql 3 (Operand.tmp 10) (Operand.const (Value.int IntKind.i64 0)) 3, type := 4, pos := _, after := #[{ on := 4, ground := Ground.data }], guard := none }) (v := (.bool true)) rfl (by kernel_rfl) (by kernel_rfl) (by kernel_rfl) (fun _ _ _ h => h) (Or.inl ⟨by rfl, fun w' hS => by (try dsimp only at hS); go_simp⟩) ⟨Hb1.out, Hb2.out, HL.out⟩ ?_
  simp only [Act.put, List.setIfInBounds_toArray, List.set_cons_zero, List.set_cons_succ]
  refine wpAnyH_take (i := 6) (oi := { dst := some 12, op := Op.move (Operand.tmp 11), type := 4, pos := _, after := #[{ on := 5, ground := Ground.data }], guard := none }) (v := (.bool true)) rfl (by kernel_rfl) (by kernel_rfl) (by kernel_rfl) (fun _ _ _ h => h) (Or.inl ⟨by rfl, fun w' hS => by (try dsimp only at hS); go_simp⟩) ⟨Hb1.out, Hb2.out, HL.out⟩ ?_
  simp only [Act.put, List.setIfInBounds_toArray, List.set_cons_zero, List.set_cons_succ]
  refine wpAnyH_take (i := 7) (oi := { dst := some 13, op := Op.load 3 (Operand.tmp 1), type := 3, pos := _, after := #[{ on := 6, ground := Ground.guard }], guard := some (6, true) }) (v := (.int .i64 g)) rfl (by kernel_rfl) (by kernel_rfl) (by kernel_rfl) (fun _ _ _ h => h) (Or.inl ⟨by rfl, fun w' hS => by (try dsimp only at hS); go_simp⟩) ⟨Hb1.out, Hb2.out, HL.out⟩ ?_
  simp only [Act.put, List.setIfInBounds_toArray, List.set_cons_zero, List.set_cons_succ]
  refine wpAnyH_ready (rs := [8]) (by kernel_rfl) (by simp) ?_
  refine AllReadyH.cons (o := { dst := some 14, op := Op.call { callee := Callee.value (Operand.func 54), args := #[Operand.tmp 13], argTypes := #[3] }, type := 4, pos := _, after := #[{ on := 7, ground := Ground.data }, { on := 6, ground := Ground.chain }, { on := 6, ground := Ground.guard }], guard := some (6, true) }) rfl (fun K hK => ?_) AllReadyH.nil
  go_simp
  refine (isPage_yes g _ HP.out).mono ?_
  rintro e w1 ⟨rfl, rfl⟩
  refine hK.out _ _ ⟨Hb1.out, Hb2.out, HL.out⟩ (fun hB => ?_)
  clear hK K hB
  try simp only [Act.put, List.setIfInBounds_toArray, List.set_cons_zero, List.set_cons_succ]
  refine wpAnyH_take (i := 9) (oi := { dst := some 15, op := Op.pick (Operand.tmp 12) (Operand.tmp 14) (Operand.const (Value.bool false)), type := 4, pos := _, after := #[{ on := 6, ground := Ground.data }, { on := 8, ground := Ground.data }], guard := none }) (v := (.bool true)) rfl (by kernel_rfl) (by kernel_rfl) (by kernel_rfl) (fun _ _ _ h => h) (Or.inl ⟨by rfl, fun w' hS => by (try dsimp only at hS); go_simp⟩) ⟨Hb1.out, Hb2.out, HL.out⟩ ?_
  simp only [Act.put, List.setIfInBounds_toArray, List.set_cons_zero, List.set_cons_succ]
  refine wpAnyH_take (i := 10) (oi := { dst := some 16, op := Op.move (Operand.tmp 15), type := 4, pos := _, after := #[{ on := 9, ground := Ground.data }, { on := 8, ground := Ground.chain }], guard := none }) (v := (.bool true)) rfl (by kernel_rfl) (by kernel_rfl) (by kernel_rfl) (fun _ _ _ h => h) (Or.inl ⟨by rfl, fun w' hS => by (try dsimp only at hS); go_simp⟩) ⟨Hb1.out, Hb2.out, HL.out⟩ ?_
  simp only [Act.put, List.setIfInBounds_toArray, List.set_cons_zero, List.set_cons_succ]
  refine wpAnyH_take (i := 11) (oi := { dst := some 17, op := Op.load 3 (Operand.tmp 2), type := 3, pos := _, after := #[{ on := 10, ground := Ground.guard }], guard := some (10, true) }) (v := (.int .i64 y)) rfl (by kernel_rfl) (by kernel_rfl) (by kernel_rfl) (fun _ _ _ h => h) (Or.inl ⟨by rfl, fun w' hS => by (try dsimp only at hS); go_simp⟩) ⟨Hb1.out, Hb2.out, HL.out⟩ ?_
  simp only [Act.put, List.setIfInBounds_toArray, List.set_cons_zero, List.set_cons_succ]
  refine wpAnyH_ready (rs := [12]) (by kernel_rfl) (by simp) ?_
  refine AllReadyH.cons (o := { dst := some 18, op := Op.call { callee := Callee.value (Operand.func 55), args := #[Operand.tmp 17], argTypes := #[3] }, type := 4, pos := _, after := #[{ on := 11, ground := Ground.data }, { on := 10, ground := Ground.chain }, { on := 10, ground := Ground.guard }], guard := some (10, true) }) rfl (fun K hK => ?_) AllReadyH.nil
  go_simp
  refine (isMay_any y _).mono ?_
  rintro e w1 ⟨r, rfl, hr, rfl⟩
  have HR2 : Hid (r = true ↔ (oy = 0 ∧ pgOK g ∧ mayOK y)) := hr.trans ⟨fun q => ⟨H0.out, HP.out, q⟩, fun q => q.2.2⟩
  clear hr
  refine hK.out _ _ ⟨Hb1.out, Hb2.out, HL.out⟩ (fun hB => ?_)
  clear hK K hB
  try simp only [Act.put, List.setIfInBounds_toArray, List.set_cons_zero, List.set_cons_succ]
  refine wpAnyH_take (i := 13) (oi := { dst := some 19, op := Op.pick (Operand.tmp 16) (Operand.tmp 18) (Operand.const (Value.bool false)), type := 4, pos := _, after := #[{ on := 10, ground := Ground.data }, { on := 12, ground := Ground.data }, { on := 14, ground := Ground.gcOnly Departure.lateStores }], guard := none }) (v := (.bool r)) rfl (by kernel_rfl) (by kernel_rfl) (by kernel_rfl) (fun _ _ _ h => h) (Or.inl ⟨by rfl, fun w' hS => by (try dsimp only at hS); go_simp⟩) ⟨Hb1.out, Hb2.out, HL.out⟩ ?_
  simp only [Act.put, List.setIfInBounds_toArray, List.set_cons_zero, List.set_cons_succ]
  refine wpAnyH_ready (rs := [14]) (by kernel_rfl) (by simp) ?_
  refine AllReadyH.cons (o := { dst := none, op := Op.store 78 (Operand.tmp 4) (Operand.tmp 8), type := 0, pos := _, after := #[{ on := 2, ground := Ground.data }, { on := 12, ground := Ground.chain }, { on := 0, ground := Ground.phase }, { on := 1, ground := Ground.phase }, { on := 2, ground := Ground.phase }, { on := 3, ground := Ground.textOnly Departure.lateStores }, { on := 4, ground := Ground.textOnly Departure.lateStores }, { on := 5, ground := Ground.textOnly Departure.lateStores }, { on := 6, ground := Ground.textOnly Departure.lateStores }, { on := 7, ground := Ground.textOnly Departure.lateStores }, { on := 8, ground := Ground.textOnly Departure.lateStoresUnsure }, { on := 9, ground := Ground.textOnly Departure.lateStores }, { on := 10, ground := Ground.textOnly Departure.lateStores }, { on := 11, ground := Ground.textOnly Departure.lateStores }, { on := 12, ground := Ground.textOnly Departure.lateStoresUnsure }, { on := 13, ground := Ground.textOnly Departure.lateStores }], guard := none }) rfl (fun K hK => ?_) AllReadyH.nil
  go_simp
  have hSt := (And.intro ((Hb1.out.setOther (a := ⟨w.heap.size + 1, 0, none⟩) (by show b1 ≠ w.heap.size + 1; omega) (.int .i64 g)).setOther (a := ⟨w.heap.size + 1, 1, none⟩) (by show b1 ≠ w.heap.size + 1; omega) (.int .i64 y)) (And.intro ((Hb2.out.setOther (a := ⟨w.heap.size + 1, 0, none⟩) (by show b2 ≠ w.heap.size + 1; omega) (.int .i64 g)).setOther (a := ⟨w.heap.size + 1, 1, none⟩) (by show b2 ≠ w.heap.size + 1; omega) (.int .i64 y)) ((HL.out.setOther (a := ⟨w.heap.size + 1, 0, none⟩) (by show w.heap.size ≠ w.heap.size + 1; omega) (.int .i64 g)).setOther (a := ⟨w.heap.size + 1, 1, none⟩) (by show w.heap.size ≠ w.heap.size + 1; omega) (.int .i64 y))))
  refine hK.out _ _ hSt (fun hB => ?_)
  clear hK K hB
  try simp only [Act.put, List.setIfInBounds_toArray, List.set_cons_zero, List.set_cons_succ]
  refine wpAnyH_take (i := 15) (oi := { dst := some 5, op := Op.assign (Operand.tmp 19), type := 4, pos := _, after := #[{ on := 13, ground := Ground.data }, { on := 14, ground := Ground.chain }, { on := 0, ground := Ground.phase }, { on := 1, ground := Ground.phase }, { on := 2, ground := Ground.phase }, { on := 3, ground := Ground.phase }, { on := 4, ground := Ground.phase }, { on := 5, ground := Ground.phase }, { on := 6, ground := Ground.phase }, { on := 7, ground := Ground.phase }, { on := 8, ground := Ground.phase }, { on := 9, ground := Ground.phase }, { on := 10, ground := Ground.phase }, { on := 11, ground := Ground.phase }, { on := 12, ground := Ground.phase }, { on := 13, ground := Ground.phase }, { on := 14, ground := Ground.phase }], guard := none }) (v := (.bool r)) rfl (by kernel_rfl) (by kernel_rfl) (by kernel_rfl) (fun _ _ _ h => h) (Or.inl ⟨by rfl, fun w' hS => by (try dsimp only at hS); go_simp⟩) hSt ?_
  simp only [Act.put, List.setIfInBounds_toArray, List.set_cons_zero, List.set_cons_succ]
  refine wpAnyH_done (by kernel_rfl) ?_ _
  refine NoPanic.normal ?_
  have HBF : Hid _ := set2_blw HB.out (B := w.heap.size + 1) (by omega) (.int .i64 g) (.int .i64 y)
  clear hSt HL HR HB PL0 PL1 Hb1 Pb1 Hb2 Pb2
  go_wp2
  exact bodyPost_ret (v := .tuple #[.agg #[.int .i64 g, .int .i64 y], .bool r]) (by simp [results, Try.results53, go_sem, t0, t1]) rfl ⟨r, rfl, HR2.out, HBF.out⟩
set_option maxRecDepth 10000 in
set_option maxHeartbeats 3200000 in
theorem unmapFn_any (ox oy : Int) (w : World) :
    Calls Try.prog 66 #[.agg #[.int .i64 ox, .int .i64 oy]] w fun e w' => ∃ r, e = .returned (.tuple #[.agg #[.int .i64 0, .int .i64 0], .bool r]) ∧ (r = true ↔ ¬ oy = 0) ∧ Blw w w' := by
  have hA1 : Blw w (w.alloc (.cells #[.int .i64 ox, .int .i64 oy] 78)) := (Blw.refl _).alloc _
  have hA2 : Blw (w.alloc (.cells #[.int .i64 ox, .int .i64 oy] 78)) ((w.alloc (.cells #[.int .i64 ox, .int .i64 oy] 78)).alloc (.cells #[.int .i64 0, .int .i64 0] 78)) := (Blw.refl _).alloc _
  have HB : Hid (Blw w ((w.alloc (.cells #[.int .i64 ox, .int .i64 oy] 78)).alloc (.cells #[.int .i64 0, .int .i64 0] 78))) := hA1.trans hA2
  have HL : Hid (Row ((w.alloc (.cells #[.int .i64 ox, .int .i64 oy] 78)).alloc (.cells #[.int .i64 0, .int .i64 0] 78)) w.heap.size 2 (fun i => if i = 0 then .int .i64 ox else .int .i64 oy)) := (box2 w _ _ 78).blw hA2
  have rR := box2 (w.alloc (.cells #[.int .i64 ox, .int .i64 oy] 78)) (.int .i64 0) (.int .i64 0) 78
  rw [World.size_alloc] at rR
  have HR : Hid (Row ((w.alloc (.cells #[.int .i64 ox, .int .i64 oy] 78)).alloc (.cells #[.int .i64 0, .int .i64 0] 78)) (w.heap.size + 1) 2 (fun i => if i = 0 then .int .i64 0 else .int .i64 0)) := rR
  clear hA1 hA2 rR 
  go_enter Try.func66, Try.ntmps66
  obtain ⟨r, hr, hr2⟩ : ∃ r, (oy != 0) = r ∧ (r = true ↔ ¬ oy = 0) := ⟨_, rfl, by simp⟩
  have HRR : Hid (r = true ↔ ¬ oy = 0) := hr2
  clear hr2
  go_upto_region 1 with fail
  generalize ((w.alloc (.cells #[.int .i64 ox, .int .i64 oy] 78)).alloc (.cells #[.int .i64 0, .int .i64 0] 78)) = W at *
  replace HL : Hid (Row W.drew w.heap.size 2 (fun i => if i = 0 then .int .i64 ox else .int .i64 oy)) := HL.out.blw (Blw.refl _).drew
  replace HR : Hid (Row W.drew (w.heap.size + 1) 2 (fun i => if i = 0 then .int .i64 0 else .int .i64 0)) := HR.out.blw (Blw.refl _).drew
  replace HB : Hid (Blw w W.drew) := HB.out.drew
  have PL0 : ∀ w', (Row w' w.heap.size 2 (fun i => if i = 0 then .int .i64 ox else .int .i64 oy)) → w'.cell? ⟨w.heap.size, 0, none⟩ = some (.int .i64 ox) := fun w' hh => (get2 hh).1
  have PL1 : ∀ w', (Row w' w.heap.size 2 (fun i => if i = 0 then .int .i64 ox else .int .i64 oy)) → w'.cell? ⟨w.heap.size, 1, none⟩ = some (.int .i64 oy) := fun w' hh => (get2 hh).2
  obtain ⟨t0, t1⟩ := get2 HR.out
  have f0 := HR.out.frozen 0
  have f1 := HR.out.frozen 1
  refine wp_region_noPanic ?_
  refine wp_region_held_drew (S := fun w' => Row w' w.heap.size 2 (fun i => if i = 0 then .int .i64 ox else .int .i64 oy)) (by kernel_rfl) HL.out (fun hB => ?_)
  clear hB
  generalize W.drew = wd at *
  refine wpAnyH_take (i := 0) (oi := { dst := some 4, op := Op.build 78 #[], type := 78, pos := _, after := #[], guard := none }) (v := (.agg #[.int .i64 0, .int .i64 0])) rfl (by kernel_rfl) (by kernel_rfl) (by kernel_rfl) (fun _ _ _ h => h) (Or.inl ⟨by rfl, fun w' hS => by (try dsimp only at hS); go_simp⟩) HL.out ?_
  simp only [Act.put, List.setIfInBounds_toArray, List.set_cons_zero, List.set_cons_succ]
  refine wpAnyH_take (i := 1) (oi := { dst := some 5, op := Op.fieldAddr 78 (Operand.tmp 1) 1, type := 0, pos := _, after := #[{ on := 4, ground := Ground.gcOnly Departure.lateStores }], guard := none }) (v := (.pointer (some ⟨w.heap.size, 1, none⟩))) rfl (by kernel_rfl) (by kernel_rfl) (by kernel_rfl) (fun _ _ _ h => h) (Or.inl ⟨by rfl, fun w' hS => by (try dsimp only at hS); go_simp⟩) HL.out ?_
  simp only [Act.put, List.setIfInBounds_toArray, List.set_cons_zero, List.set_cons_succ]
  refine wpAnyH_take (i := 2) (oi := { dst := some 6, op := Op.load 3 (Operand.tmp 5), type := 3, pos := _, after := #[{ on := 1, ground := Ground.data }, { on := 4, ground := Ground.gcOnly Departure.lateStores }], guard := none }) (v := (.int .i64 oy)) rfl (by kernel_rfl) (by kernel_rfl) (by kernel_rfl) (fun _ _ _ h => h) (Or.inl ⟨by rfl, fun w' hS => by (try dsimp only at hS); go_simp⟩) HL.out ?_
  simp only [Act.put, List.setIfInBounds_toArray, List.set_cons_zero, List.set_cons_succ]
  refine wpAnyH_take (i := 3) (oi := { dst := some 7, op := Op.binOp BinOp.neq 3 (Operand.tmp 6) (Operand.const (Value.int IntKind.i64 0)) 3, type := 4, pos := _, after := #[{ on := 2, ground := Ground.data }, { on := 4, ground := Ground.gcOnly Departure.lateStores }], guard := none }) (v := (.bool r)) rfl (by kernel_rfl) (by kernel_rfl) (by kernel_rfl) (fun _ _ _ h => h) (Or.inl ⟨by rfl, fun w' hS => by (try dsimp only at hS); go_simp⟩) HL.out ?_
  simp only [Act.put, List.setIfInBounds_toArray, List.set_cons_zero, List.set_cons_succ]
  refine wpAnyH_ready (rs := [4]) (by kernel_rfl) (by simp) ?_
  refine AllReadyH.cons (o := { dst := none, op := Op.store 78 (Operand.tmp 2) (Operand.tmp 4), type := 0, pos := _, after := #[{ on := 0, ground := Ground.data }, { on := 0, ground := Ground.phase }, { on := 1, ground := Ground.textOnly Departure.lateStores }, { on := 2, ground := Ground.textOnly Departure.lateStores }, { on := 3, ground := Ground.textOnly Departure.lateStores }], guard := none }) rfl (fun K hK => ?_) AllReadyH.nil
  go_simp
  have hSt := ((HL.out.setOther (a := ⟨w.heap.size + 1, 0, none⟩) (by show w.heap.size ≠ w.heap.size + 1; omega) (.int .i64 0)).setOther (a := ⟨w.heap.size + 1, 1, none⟩) (by show w.heap.size ≠ w.heap.size + 1; omega) (.int .i64 0))
  refine hK.out _ _ hSt (fun hB => ?_)
  clear hK K hB
  try simp only [Act.put, List.setIfInBounds_toArray, List.set_cons_zero, List.set_cons_succ]
  refine wpAnyH_take (i := 5) (oi := { dst := some 3, op := Op.assign (Operand.tmp 7), type := 4, pos := _, after := #[{ on := 3, ground := Ground.data }, { on := 4, ground := Ground.chain }, { on := 0, ground := Ground.phase }, { on := 1, ground := Ground.phase }, { on := 2, ground := Ground.phase }, { on := 3, ground := Ground.phase }, { on := 4, ground := Ground.phase }], guard := none }) (v := (.bool r)) rfl (by kernel_rfl) (by kernel_rfl) (by kernel_rfl) (fun _ _ _ h => h) (Or.inl ⟨by rfl, fun w' hS => by (try dsimp only at hS); go_simp⟩) hSt ?_
  simp only [Act.put, List.setIfInBounds_toArray, List.set_cons_zero, List.set_cons_succ]
  refine wpAnyH_done (by kernel_rfl) ?_ _
  refine NoPanic.normal ?_
  have HBF : Hid _ := set2_blw HB.out (B := w.heap.size + 1) (by omega) (.int .i64 0) (.int .i64 0)
  clear hSt HL HR HB PL0 PL1 
  go_wp2
  exact bodyPost_ret (v := .tuple #[.agg #[.int .i64 0, .int .i64 0], .bool r]) (by simp [results, Try.results66, go_sem, t0, t1]) rfl ⟨r, rfl, HRR.out, HBF.out⟩
set_option maxRecDepth 10000 in
set_option maxHeartbeats 3200000 in
theorem protFn_any (ox oy y : Int) (b2 : Nat) (w : World) (hb2 : Row w b2 1 (fun _ => .int .i64 y)) :
    Calls Try.prog 67 #[.agg #[.int .i64 ox, .int .i64 oy], .pointer (some ⟨b2, 0, none⟩)] w fun e w' => ∃ r, e = .returned (.tuple #[.agg #[.int .i64 ox, .int .i64 y], .bool r]) ∧ (r = true ↔ ¬ oy = 0 ∧ mayOK y) ∧ Blw w w' := by
  have hA1 : Blw w (w.alloc (.cells #[.int .i64 ox, .int .i64 oy] 78)) := (Blw.refl _).alloc _
  have hA2 : Blw (w.alloc (.cells #[.int .i64 ox, .int .i64 oy] 78)) ((w.alloc (.cells #[.int .i64 ox, .int .i64 oy] 78)).alloc (.cells #[.int .i64 0, .int .i64 0] 78)) := (Blw.refl _).alloc _
  have HB : Hid (Blw w ((w.alloc (.cells #[.int .i64 ox, .int .i64 oy] 78)).alloc (.cells #[.int .i64 0, .int .i64 0] 78))) := hA1.trans hA2
  have HL : Hid (Row ((w.alloc (.cells #[.int .i64 ox, .int .i64 oy] 78)).alloc (.cells #[.int .i64 0, .int .i64 0] 78)) w.heap.size 2 (fun i => if i = 0 then .int .i64 ox else .int .i64 oy)) := (box2 w _ _ 78).blw hA2
  have rR := box2 (w.alloc (.cells #[.int .i64 ox, .int .i64 oy] 78)) (.int .i64 0) (.int .i64 0) 78
  rw [World.size_alloc] at rR
  have HR : Hid (Row ((w.alloc (.cells #[.int .i64 ox, .int .i64 oy] 78)).alloc (.cells #[.int .i64 0, .int .i64 0] 78)) (w.heap.size + 1) 2 (fun i => if i = 0 then .int .i64 0 else .int .i64 0)) := rR
  have Hb2 : Hid (Row ((w.alloc (.cells #[.int .i64 ox, .int .i64 oy] 78)).alloc (.cells #[.int .i64 0, .int .i64 0] 78)) b2 1 (fun _ => .int .i64 y)) := hb2.blw (hA1.trans hA2)
  have lb2 := hb2.lt
  clear hA1 hA2 rR hb2
  go_enter Try.func67, Try.ntmps67
  by_cases h0 : oy = 0
  case pos =>
    have d1 : (oy != 0) = false := by simp [h0]
    have HN : Hid (¬ (¬ oy = 0 ∧ mayOK y)) := fun q => q.1 h0
    clear h0
    go_upto_region 1 with fail
    generalize ((w.alloc (.cells #[.int .i64 ox, .int .i64 oy] 78)).alloc (.cells #[.int .i64 0, .int .i64 0] 78)) = W at *
    replace Hb2 : Hid (Row W.drew b2 1 (fun _ => .int .i64 y)) := Hb2.out.blw (Blw.refl _).drew
    replace HL : Hid (Row W.drew w.heap.size 2 (fun i => if i = 0 then .int .i64 ox else .int .i64 oy)) := HL.out.blw (Blw.refl _).drew
    replace HR : Hid (Row W.drew (w.heap.size + 1) 2 (fun i => if i = 0 then .int .i64 0 else .int .i64 0)) := HR.out.blw (Blw.refl _).drew
    replace HB : Hid (Blw w W.drew) := HB.out.drew
    have Pb2 : ∀ w', (Row w' b2 1 (fun _ => .int .i64 y) ∧ Row w' w.heap.size 2 (fun i => if i = 0 then .int .i64 ox else .int .i64 oy)) → w'.cell? ⟨b2, 0, none⟩ = some (.int .i64 y) := fun w' hh => (hh.1).cell (i := 0) (by omega)
    have PL0 : ∀ w', (Row w' b2 1 (fun _ => .int .i64 y) ∧ Row w' w.heap.size 2 (fun i => if i = 0 then .int .i64 ox else .int .i64 oy)) → w'.cell? ⟨w.heap.size, 0, none⟩ = some (.int .i64 ox) := fun w' hh => (get2 hh.2).1
    have PL1 : ∀ w', (Row w' b2 1 (fun _ => .int .i64 y) ∧ Row w' w.heap.size 2 (fun i => if i = 0 then .int .i64 ox else .int .i64 oy)) → w'.cell? ⟨w.heap.size, 1, none⟩ = some (.int .i64 oy) := fun w' hh => (get2 hh.2).2
    obtain ⟨t0, t1⟩ := get2 HR.out
    have f0 := HR.out.frozen 0
    have f1 := HR.out.frozen 1
    refine wp_region_noPanic ?_
    refine wp_region_held_drew (S := fun w' => Row w' b2 1 (fun _ => .int .i64 y) ∧ Row w' w.heap.size 2 (fun i => if i = 0 then .int .i64 ox else .int .i64 oy)) (by kernel_rfl) ⟨Hb2.out, HL.out⟩ (fun hB => ?_)
    clear hB
    generalize W.drew = wd at *
    refine wpAnyH_take (i := 0) (oi := { dst := some 5, op := Op.fieldAddr 78 (Operand.tmp 2) 0, type := 0, pos := _, after := #[], guard := none }) (v := (.pointer (some ⟨w.heap.size, 0, none⟩))) rfl (by kernel_rfl) (by kernel_rfl) (by kernel_rfl) (fun _ _ _ h => h) (Or.inl ⟨by rfl, fun w' hS => by (try dsimp only at hS); go_simp⟩) ⟨Hb2.out, HL.out⟩ ?_
    simp only [Act.put, List.setIfInBounds_toArray, List.set_cons_zero, List.set_cons_succ]
    refine wpAnyH_take (i := 2) (oi := { dst := some 7, op := Op.load 3 (Operand.tmp 1), type := 3, pos := _, after := #[], guard := none }) (v := (.int .i64 y)) rfl (by kernel_rfl) (by kernel_rfl) (by kernel_rfl) (fun _ _ _ h => h) (Or.inl ⟨by rfl, fun w' hS => by (try dsimp only at hS); go_simp⟩) ⟨Hb2.out, HL.out⟩ ?_
    simp only [Act.put, List.setIfInBounds_toArray, List.set_cons_zero, List.set_cons_succ]
    refine wpAnyH_take (i := 4) (oi := { dst := some 9, op := Op.fieldAddr 78 (Operand.tmp 2) 1, type := 0, pos := _, after := #[], guard := none }) (v := (.pointer (some ⟨w.heap.size, 1, none⟩))) rfl (by kernel_rfl) (by kernel_rfl) (by kernel_rfl) (fun _ _ _ h => h) (Or.inl ⟨by rfl, fun w' hS => by (try dsimp only at hS); go_simp⟩) ⟨Hb2.out, HL.out⟩ ?_
    simp only [Act.put, List.setIfInBounds_toArray, List.set_cons_zero, List.set_cons_succ]
    refine wpAnyH_take (i := 1) (oi := { dst := some 6, op := Op.load 3 (Operand.tmp 5), type := 3, pos := _, after := #[{ on := 0, ground := Ground.data }], guard := none }) (v := (.int .i64 ox)) rfl (by kernel_rfl) (by kernel_rfl) (by kernel_rfl) (fun _ _ _ h => h) (Or.inl ⟨by rfl, fun w' hS => by (try dsimp only at hS); go_simp⟩) ⟨Hb2.out, HL.out⟩ ?_
    simp only [Act.put, List.setIfInBounds_toArray, List.set_cons_zero, List.set_cons_succ]
    refine wpAnyH_take (i := 5) (oi := { dst := some 10, op := Op.load 3 (Operand.tmp 9), type := 3, pos := _, after := #[{ on := 4, ground := Ground.data }], guard := none }) (v := (.int .i64 oy)) rfl (by kernel_rfl) (by kernel_rfl) (by kernel_rfl) (fun _ _ _ h => h) (Or.inl ⟨by rfl, fun w' hS => by (try dsimp only at hS); go_simp⟩) ⟨Hb2.out, HL.out⟩ ?_
    simp only [Act.put, List.setIfInBounds_toArray, List.set_cons_zero, List.set_cons_succ]
    refine wpAnyH_take (i := 3) (oi := { dst := some 8, op := Op.build 78 #[(0, Operand.tmp 6), (1, Operand.tmp 7)], type := 78, pos := _, after := #[{ on := 1, ground := Ground.data }, { on := 2, ground := Ground.data }], guard := none }) (v := (.agg #[.int .i64 ox, .int .i64 y])) rfl (by kernel_rfl) (by kernel_rfl) (by kernel_rfl) (fun _ _ _ h => h) (Or.inl ⟨by rfl, fun w' hS => by (try dsimp only at hS); go_simp⟩) ⟨Hb2.out, HL.out⟩ ?_
    simp only [Act.put, List.setIfInBounds_toArray, List.set_cons_zero, List.set_cons_succ]
    refine wpAnyH_take (i := 6) (oi := { dst := some 11, op := Op.binOp BinOp.neq 3 (Operand.tmp 10) (Operand.const (Value.int IntKind.i64 0)) 3, type := 4, pos := _, after := #[{ on := 5, ground := Ground.data }], guard := none }) (v := (.bool false)) rfl (by kernel_rfl) (by kernel_rfl) (by kernel_rfl) (fun _ _ _ h => h) (Or.inl ⟨by rfl, fun w' hS => by (try dsimp only at hS); go_simp⟩) ⟨Hb2.out, HL.out⟩ ?_
    simp only [Act.put, List.setIfInBounds_toArray, List.set_cons_zero, List.set_cons_succ]
    refine wpAnyH_take (i := 7) (oi := { dst := some 12, op := Op.move (Operand.tmp 11), type := 4, pos := _, after := #[{ on := 6, ground := Ground.data }], guard := none }) (v := (.bool false)) rfl (by kernel_rfl) (by kernel_rfl) (by kernel_rfl) (fun _ _ _ h => h) (Or.inl ⟨by rfl, fun w' hS => by (try dsimp only at hS); go_simp⟩) ⟨Hb2.out, HL.out⟩ ?_
    simp only [Act.put, List.setIfInBounds_toArray, List.set_cons_zero, List.set_cons_succ]
    refine wpAnyH_take (i := 8) (oi := { dst := some 13, op := Op.load 3 (Operand.tmp 1), type := 3, pos := _, after := #[{ on := 7, ground := Ground.guard }], guard := some (7, true) }) (v := undef) rfl (by kernel_rfl) (by kernel_rfl) (by kernel_rfl) (fun _ _ _ h => h) (Or.inr ⟨by rfl, rfl⟩) ⟨Hb2.out, HL.out⟩ ?_
    simp only [Act.put, List.setIfInBounds_toArray, List.set_cons_zero, List.set_cons_succ]
    refine wpAnyH_take (i := 9) (oi := { dst := some 14, op := Op.call { callee := Callee.value (Operand.func 55), args := #[Operand.tmp 13], argTypes := #[3] }, type := 4, pos := _, after := #[{ on := 8, ground := Ground.data }, { on := 7, ground := Ground.chain }, { on := 7, ground := Ground.guard }], guard := some (7, true) }) (v := undef) rfl (by kernel_rfl) (by kernel_rfl) (by kernel_rfl) (fun _ _ _ h => h) (Or.inr ⟨by rfl, rfl⟩) ⟨Hb2.out, HL.out⟩ ?_
    simp only [Act.put, List.setIfInBounds_toArray, List.set_cons_zero, List.set_cons_succ]
    refine wpAnyH_take (i := 10) (oi := { dst := some 15, op := Op.pick (Operand.tmp 12) (Operand.tmp 14) (Operand.const (Value.bool false)), type := 4, pos := _, after := #[{ on := 7, ground := Ground.data }, { on := 9, ground := Ground.data }, { on := 11, ground := Ground.gcOnly Departure.lateStores }], guard := none }) (v := (.bool false)) rfl (by kernel_rfl) (by kernel_rfl) (by kernel_rfl) (fun _ _ _ h => h) (Or.inl ⟨by rfl, fun w' hS => by (try dsimp only at hS); go_simp⟩) ⟨Hb2.out, HL.out⟩ ?_
    simp only [Act.put, List.setIfInBounds_toArray, List.set_cons_zero, List.set_cons_succ]
    refine wpAnyH_ready (rs := [11]) (by kernel_rfl) (by simp) ?_
    refine AllReadyH.cons (o := { dst := none, op := Op.store 78 (Operand.tmp 3) (Operand.tmp 8), type := 0, pos := _, after := #[{ on := 3, ground := Ground.data }, { on := 9, ground := Ground.chain }, { on := 0, ground := Ground.phase }, { on := 1, ground := Ground.phase }, { on := 2, ground := Ground.phase }, { on := 3, ground := Ground.phase }, { on := 4, ground := Ground.textOnly Departure.lateStores }, { on := 5, ground := Ground.textOnly Departure.lateStores }, { on := 6, ground := Ground.textOnly Departure.lateStores }, { on := 7, ground := Ground.textOnly Departure.lateStores }, { on := 8, ground := Ground.textOnly Departure.lateStores }, { on := 9, ground := Ground.textOnly Departure.lateStoresUnsure }, { on := 10, ground := Ground.textOnly Departure.lateStores }], guard := none }) rfl (fun K hK => ?_) AllReadyH.nil
    go_simp
    have hSt := (And.intro ((Hb2.out.setOther (a := ⟨w.heap.size + 1, 0, none⟩) (by show b2 ≠ w.heap.size + 1; omega) (.int .i64 ox)).setOther (a := ⟨w.heap.size + 1, 1, none⟩) (by show b2 ≠ w.heap.size + 1; omega) (.int .i64 y)) ((HL.out.setOther (a := ⟨w.heap.size + 1, 0, none⟩) (by show w.heap.size ≠ w.heap.size + 1; omega) (.int .i64 ox)).setOther (a := ⟨w.heap.size + 1, 1, none⟩) (by show w.heap.size ≠ w.heap.size + 1; omega) (.int .i64 y)))
    refine hK.out _ _ hSt (fun hB => ?_)
    clear hK K hB
    try simp only [Act.put, List.setIfInBounds_toArray, List.set_cons_zero, List.set_cons_succ]
    refine wpAnyH_take (i := 12) (oi := { dst := some 4, op := Op.assign (Operand.tmp 15), type := 4, pos := _, after := #[{ on := 10, ground := Ground.data }, { on := 11, ground := Ground.chain }, { on := 0, ground := Ground.phase }, { on := 1, ground := Ground.phase }, { on := 2, ground := Ground.phase }, { on := 3, ground := Ground.phase }, { on := 4, ground := Ground.phase }, { on := 5, ground := Ground.phase }, { on := 6, ground := Ground.phase }, { on := 7, ground := Ground.phase }, { on := 8, ground := Ground.phase }, { on := 9, ground := Ground.phase }, { on := 10, ground := Ground.phase }, { on := 11, ground := Ground.phase }], guard := none }) (v := (.bool false)) rfl (by kernel_rfl) (by kernel_rfl) (by kernel_rfl) (fun _ _ _ h => h) (Or.inl ⟨by rfl, fun w' hS => by (try dsimp only at hS); go_simp⟩) hSt ?_
    simp only [Act.put, List.setIfInBounds_toArray, List.set_cons_zero, List.set_cons_succ]
    refine wpAnyH_done (by kernel_rfl) ?_ _
    refine NoPanic.normal ?_
    have HBF : Hid _ := set2_blw HB.out (B := w.heap.size + 1) (by omega) (.int .i64 ox) (.int .i64 y)
    clear hSt HL HR HB PL0 PL1 Hb2 Pb2
    go_wp2
    exact bodyPost_ret (v := .tuple #[.agg #[.int .i64 ox, .int .i64 y], .bool false]) (by simp [results, Try.results67, go_sem, t0, t1]) rfl ⟨false, rfl, iff_f HN.out, HBF.out⟩
  have d1 : (oy != 0) = true := by simp [h0]
  have H0 : Hid (¬ oy = 0) := h0
  clear h0
  go_upto_region 1 with fail
  generalize ((w.alloc (.cells #[.int .i64 ox, .int .i64 oy] 78)).alloc (.cells #[.int .i64 0, .int .i64 0] 78)) = W at *
  replace Hb2 : Hid (Row W.drew b2 1 (fun _ => .int .i64 y)) := Hb2.out.blw (Blw.refl _).drew
  replace HL : Hid (Row W.drew w.heap.size 2 (fun i => if i = 0 then .int .i64 ox else .int .i64 oy)) := HL.out.blw (Blw.refl _).drew
  replace HR : Hid (Row W.drew (w.heap.size + 1) 2 (fun i => if i = 0 then .int .i64 0 else .int .i64 0)) := HR.out.blw (Blw.refl _).drew
  replace HB : Hid (Blw w W.drew) := HB.out.drew
  have Pb2 : ∀ w', (Row w' b2 1 (fun _ => .int .i64 y) ∧ Row w' w.heap.size 2 (fun i => if i = 0 then .int .i64 ox else .int .i64 oy)) → w'.cell? ⟨b2, 0, none⟩ = some (.int .i64 y) := fun w' hh => (hh.1).cell (i := 0) (by omega)
  have PL0 : ∀ w', (Row w' b2 1 (fun _ => .int .i64 y) ∧ Row w' w.heap.size 2 (fun i => if i = 0 then .int .i64 ox else .int .i64 oy)) → w'.cell? ⟨w.heap.size, 0, none⟩ = some (.int .i64 ox) := fun w' hh => (get2 hh.2).1
  have PL1 : ∀ w', (Row w' b2 1 (fun _ => .int .i64 y) ∧ Row w' w.heap.size 2 (fun i => if i = 0 then .int .i64 ox else .int .i64 oy)) → w'.cell? ⟨w.heap.size, 1, none⟩ = some (.int .i64 oy) := fun w' hh => (get2 hh.2).2
  obtain ⟨t0, t1⟩ := get2 HR.out
  have f0 := HR.out.frozen 0
  have f1 := HR.out.frozen 1
  refine wp_region_noPanic ?_
  refine wp_region_held_drew (S := fun w' => Row w' b2 1 (fun _ => .int .i64 y) ∧ Row w' w.heap.size 2 (fun i => if i = 0 then .int .i64 ox else .int .i64 oy)) (by kernel_rfl) ⟨Hb2.out, HL.out⟩ (fun hB => ?_)
  clear hB
  generalize W.drew = wd at *
  refine wpAnyH_take (i := 0) (oi := { dst := some 5, op := Op.fieldAddr 78 (Operand.tmp 2) 0, type := 0, pos := _, after := #[], guard := none }) (v := (.pointer (some ⟨w.heap.size, 0, none⟩))) rfl (by kernel_rfl) (by kernel_rfl) (by kernel_rfl) (fun _ _ _ h => h) (Or.inl ⟨by rfl, fun w' hS => by (try dsimp only at hS); go_simp⟩) ⟨Hb2.out, HL.out⟩ ?_
  simp only [Act.put, List.setIfInBounds_toArray, List.set_cons_zero, List.set_cons_succ]
  refine wpAnyH_take (i := 2) (oi := { dst := some 7, op := Op.load 3 (Operand.tmp 1), type := 3, pos := _, after := #[], guard := none }) (v := (.int .i64 y)) rfl (by kernel_rfl) (by kernel_rfl) (by kernel_rfl) (fun _ _ _ h => h) (Or.inl ⟨by rfl, fun w' hS => by (try dsimp only at hS); go_simp⟩) ⟨Hb2.out, HL.out⟩ ?_
  simp only [Act.put, List.setIfInBounds_toArray, List.set_cons_zero, List.set_cons_succ]
  refine wpAnyH_take (i := 4) (oi := { dst := some 9, op := Op.fieldAddr 78 (Operand.tmp 2) 1, type := 0, pos := _, after := #[], guard := none }) (v := (.pointer (some ⟨w.heap.size, 1, none⟩))) rfl (by kernel_rfl) (by kernel_rfl) (by kernel_rfl) (fun _ _ _ h => h) (Or.inl ⟨by rfl, fun w' hS => by (try dsimp only at hS); go_simp⟩) ⟨Hb2.out, HL.out⟩ ?_
  simp only [Act.put, List.setIfInBounds_toArray, List.set_cons_zero, List.set_cons_succ]
  refine wpAnyH_take (i := 1) (oi := { dst := some 6, op := Op.load 3 (Operand.tmp 5), type := 3, pos := _, after := #[{ on := 0, ground := Ground.data }], guard := none }) (v := (.int .i64 ox)) rfl (by kernel_rfl) (by kernel_rfl) (by kernel_rfl) (fun _ _ _ h => h) (Or.inl ⟨by rfl, fun w' hS => by (try dsimp only at hS); go_simp⟩) ⟨Hb2.out, HL.out⟩ ?_
  simp only [Act.put, List.setIfInBounds_toArray, List.set_cons_zero, List.set_cons_succ]
  refine wpAnyH_take (i := 5) (oi := { dst := some 10, op := Op.load 3 (Operand.tmp 9), type := 3, pos := _, after := #[{ on := 4, ground := Ground.data }], guard := none }) (v := (.int .i64 oy)) rfl (by kernel_rfl) (by kernel_rfl) (by kernel_rfl) (fun _ _ _ h => h) (Or.inl ⟨by rfl, fun w' hS => by (try dsimp only at hS); go_simp⟩) ⟨Hb2.out, HL.out⟩ ?_
  simp only [Act.put, List.setIfInBounds_toArray, List.set_cons_zero, List.set_cons_succ]
  refine wpAnyH_take (i := 3) (oi := { dst := some 8, op := Op.build 78 #[(0, Operand.tmp 6), (1, Operand.tmp 7)], type := 78, pos := _, after := #[{ on := 1, ground := Ground.data }, { on := 2, ground := Ground.data }], guard := none }) (v := (.agg #[.int .i64 ox, .int .i64 y])) rfl (by kernel_rfl) (by kernel_rfl) (by kernel_rfl) (fun _ _ _ h => h) (Or.inl ⟨by rfl, fun w' hS => by (try dsimp only at hS); go_simp⟩) ⟨Hb2.out, HL.out⟩ ?_
  simp only [Act.put, List.setIfInBounds_toArray, List.set_cons_zero, List.set_cons_succ]
  refine wpAnyH_take (i := 6) (oi := { dst := some 11, op := Op.binOp BinOp.neq 3 (Operand.tmp 10) (Operand.const (Value.int IntKind.i64 0)) 3, type := 4, pos := _, after := #[{ on := 5, ground := Ground.data }], guard := none }) (v := (.bool true)) rfl (by kernel_rfl) (by kernel_rfl) (by kernel_rfl) (fun _ _ _ h => h) (Or.inl ⟨by rfl, fun w' hS => by (try dsimp only at hS); go_simp⟩) ⟨Hb2.out, HL.out⟩ ?_
  simp only [Act.put, List.setIfInBounds_toArray, List.set_cons_zero, List.set_cons_succ]
  refine wpAnyH_take (i := 7) (oi := { dst := some 12, op := Op.move (Operand.tmp 11), type := 4, pos := _, after := #[{ on := 6, ground := Ground.data }], guard := none }) (v := (.bool true)) rfl (by kernel_rfl) (by kernel_rfl) (by kernel_rfl) (fun _ _ _ h => h) (Or.inl ⟨by rfl, fun w' hS => by (try dsimp only at hS); go_simp⟩) ⟨Hb2.out, HL.out⟩ ?_
  simp only [Act.put, List.setIfInBounds_toArray, List.set_cons_zero, List.set_cons_succ]
  refine wpAnyH_take (i := 8) (oi := { dst := some 13, op := Op.load 3 (Operand.tmp 1), type := 3, pos := _, after := #[{ on := 7, ground := Ground.guard }], guard := some (7, true) }) (v := (.int .i64 y)) rfl (by kernel_rfl) (by kernel_rfl) (by kernel_rfl) (fun _ _ _ h => h) (Or.inl ⟨by rfl, fun w' hS => by (try dsimp only at hS); go_simp⟩) ⟨Hb2.out, HL.out⟩ ?_
  simp only [Act.put, List.setIfInBounds_toArray, List.set_cons_zero, List.set_cons_succ]
  refine wpAnyH_ready (rs := [9]) (by kernel_rfl) (by simp) ?_
  refine AllReadyH.cons (o := { dst := some 14, op := Op.call { callee := Callee.value (Operand.func 55), args := #[Operand.tmp 13], argTypes := #[3] }, type := 4, pos := _, after := #[{ on := 8, ground := Ground.data }, { on := 7, ground := Ground.chain }, { on := 7, ground := Ground.guard }], guard := some (7, true) }) rfl (fun K hK => ?_) AllReadyH.nil
  go_simp
  refine (isMay_any y _).mono ?_
  rintro e w1 ⟨r, rfl, hr, rfl⟩
  have HR2 : Hid (r = true ↔ (¬ oy = 0 ∧ mayOK y)) := hr.trans ⟨fun q => ⟨H0.out, q⟩, fun q => q.2⟩
  clear hr
  refine hK.out _ _ ⟨Hb2.out, HL.out⟩ (fun hB => ?_)
  clear hK K hB
  try simp only [Act.put, List.setIfInBounds_toArray, List.set_cons_zero, List.set_cons_succ]
  refine wpAnyH_take (i := 10) (oi := { dst := some 15, op := Op.pick (Operand.tmp 12) (Operand.tmp 14) (Operand.const (Value.bool false)), type := 4, pos := _, after := #[{ on := 7, ground := Ground.data }, { on := 9, ground := Ground.data }, { on := 11, ground := Ground.gcOnly Departure.lateStores }], guard := none }) (v := (.bool r)) rfl (by kernel_rfl) (by kernel_rfl) (by kernel_rfl) (fun _ _ _ h => h) (Or.inl ⟨by rfl, fun w' hS => by (try dsimp only at hS); go_simp⟩) ⟨Hb2.out, HL.out⟩ ?_
  simp only [Act.put, List.setIfInBounds_toArray, List.set_cons_zero, List.set_cons_succ]
  refine wpAnyH_ready (rs := [11]) (by kernel_rfl) (by simp) ?_
  refine AllReadyH.cons (o := { dst := none, op := Op.store 78 (Operand.tmp 3) (Operand.tmp 8), type := 0, pos := _, after := #[{ on := 3, ground := Ground.data }, { on := 9, ground := Ground.chain }, { on := 0, ground := Ground.phase }, { on := 1, ground := Ground.phase }, { on := 2, ground := Ground.phase }, { on := 3, ground := Ground.phase }, { on := 4, ground := Ground.textOnly Departure.lateStores }, { on := 5, ground := Ground.textOnly Departure.lateStores }, { on := 6, ground := Ground.textOnly Departure.lateStores }, { on := 7, ground := Ground.textOnly Departure.lateStores }, { on := 8, ground := Ground.textOnly Departure.lateStores }, { on := 9, ground := Ground.textOnly Departure.lateStoresUnsure }, { on := 10, ground := Ground.textOnly Departure.lateStores }], guard := none }) rfl (fun K hK => ?_) AllReadyH.nil
  go_simp
  have hSt := (And.intro ((Hb2.out.setOther (a := ⟨w.heap.size + 1, 0, none⟩) (by show b2 ≠ w.heap.size + 1; omega) (.int .i64 ox)).setOther (a := ⟨w.heap.size + 1, 1, none⟩) (by show b2 ≠ w.heap.size + 1; omega) (.int .i64 y)) ((HL.out.setOther (a := ⟨w.heap.size + 1, 0, none⟩) (by show w.heap.size ≠ w.heap.size + 1; omega) (.int .i64 ox)).setOther (a := ⟨w.heap.size + 1, 1, none⟩) (by show w.heap.size ≠ w.heap.size + 1; omega) (.int .i64 y)))
  refine hK.out _ _ hSt (fun hB => ?_)
  clear hK K hB
  try simp only [Act.put, List.setIfInBounds_toArray, List.set_cons_zero, List.set_cons_succ]
  refine wpAnyH_take (i := 12) (oi := { dst := some 4, op := Op.assign (Operand.tmp 15), type := 4, pos := _, after := #[{ on := 10, ground := Ground.data }, { on := 11, ground := Ground.chain }, { on := 0, ground := Ground.phase }, { on := 1, ground := Ground.phase }, { on := 2, ground := Ground.phase }, { on := 3, ground := Ground.phase }, { on := 4, ground := Ground.phase }, { on := 5, ground := Ground.phase }, { on := 6, ground := Ground.phase }, { on := 7, ground := Ground.phase }, { on := 8, ground := Ground.phase }, { on := 9, ground := Ground.phase }, { on := 10, ground := Ground.phase }, { on := 11, ground := Ground.phase }], guard := none }) (v := (.bool r)) rfl (by kernel_rfl) (by kernel_rfl) (by kernel_rfl) (fun _ _ _ h => h) (Or.inl ⟨by rfl, fun w' hS => by (try dsimp only at hS); go_simp⟩) hSt ?_
  simp only [Act.put, List.setIfInBounds_toArray, List.set_cons_zero, List.set_cons_succ]
  refine wpAnyH_done (by kernel_rfl) ?_ _
  refine NoPanic.normal ?_
  have HBF : Hid _ := set2_blw HB.out (B := w.heap.size + 1) (by omega) (.int .i64 ox) (.int .i64 y)
  clear hSt HL HR HB PL0 PL1 Hb2 Pb2
  go_wp2
  exact bodyPost_ret (v := .tuple #[.agg #[.int .i64 ox, .int .i64 y], .bool r]) (by simp [results, Try.results67, go_sem, t0, t1]) rfl ⟨r, rfl, HR2.out, HBF.out⟩
end Go.Proofs.Ytcfdagmcnaepgaa
/- A table with another leaf: the program's. -/
namespace Go.Proofs.Ytcfdagmcnaepgaa
open Go.RowKit
set_option linter.unusedSimpArgs false
set_option linter.unusedVariables false
/-- A table with another leaf at place x, in list q. -/
noncomputable def chB (B : BD) (x q : Nat) (g y : Int) : BD := ⟨4, topsOf B.c (x / 4) q (upd2 B.D.p q (x % 4) g q) (upd2 B.D.m q (x % 4) y q), ⟨B.D.n, fun _ => 4, upd2 B.D.p q (x % 4) g, upd2 B.D.m q (x % 4) y⟩⟩
/-- What may be changed: P of the old leaf, and a list to come into. -/
def chOK (B : BD) (a : Int) (P : Int → Int → Prop) : Prop := B.Good ∧ pgOK a ∧ P (lfP B.c B.D.p a.toNat) (lfP B.c B.D.m a.toNat) ∧ ∃ q, goes B.c B.D.n (a.toNat / 4) q
def chOut (B : BD) (a : Int) (P : Int → Int → Prop) (G : Int → Int) (y : Int) (R : BD) (r : Bool) : Prop :=
  (chOK B a P ∧ (∃ q, goes B.c B.D.n (a.toNat / 4) q ∧ R = chB B a.toNat q (G (lfP B.c B.D.p a.toNat)) y) ∧ r = true) ∨ (¬ chOK B a P ∧ R = BD.zero ∧ r = false)
theorem chOut_same {B : BD} {a : Int} {P : Int → Int → Prop} {G : Int → Int} {y : Int} {R R' : BD} {r r' : Bool} (h : chOut B a P G y R r) (h' : chOut B a P G y R' r') : R = R' ∧ r = r' := by
  rcases h with ⟨g, ⟨q, hq, rfl⟩, rfl⟩ | ⟨g, rfl, rfl⟩ <;> rcases h' with ⟨g', ⟨q', hq', rfl⟩, rfl⟩ | ⟨g', rfl, rfl⟩
  · rw [goes_uniq hq hq']; exact ⟨rfl, rfl⟩
  · exact absurd g g'
  · exact absurd g' g
  · exact ⟨rfl, rfl⟩
set_option maxRecDepth 10000 in
set_option maxHeartbeats 6400000 in
theorem changeMap_any (b : BV) (B : BD) (a g y : Int) (b1 b2 : Nat) (Y : Nat → Prop) (w : World) (h : BookAt Y w b B) (hY : ∀ x, Y x → x < w.heap.size) (hb1 : Row w b1 1 (fun _ => .int .i64 g)) (hb2 : Row w b2 1 (fun _ => .int .i64 y)) :
    Calls Try.prog 52 #[b.val B, .int .i64 a, .func (.func 53) #[] #[.pointer (some ⟨b1, 0, none⟩), .pointer (some ⟨b2, 0, none⟩)]] w (GivesB (chOut B a (fun _ oy => oy = 0 ∧ pgOK g ∧ mayOK y) (fun _ => g) y) w) := by
  have hA1 : Blw w (w.alloc (.cells #[.slice b.a1 B.n b.c1, .slice b.a2 B.D.n b.c2] 26)) := (Blw.refl _).alloc _
  have hA2 : Blw (w.alloc (.cells #[.slice b.a1 B.n b.c1, .slice b.a2 B.D.n b.c2] 26)) ((w.alloc (.cells #[.slice b.a1 B.n b.c1, .slice b.a2 B.D.n b.c2] 26)).alloc (.cells #[.slice none 0 0, .slice none 0 0] 26)) := (Blw.refl _).alloc _
  have HB : Hid (Blw w ((w.alloc (.cells #[.slice b.a1 B.n b.c1, .slice b.a2 B.D.n b.c2] 26)).alloc (.cells #[.slice none 0 0, .slice none 0 0] 26))) := hA1.trans hA2
  have rR := box2 (w.alloc (.cells #[.slice b.a1 B.n b.c1, .slice b.a2 B.D.n b.c2] 26)) (.slice none 0 0) (.slice none 0 0) 26
  rw [World.size_alloc] at rR
  have HR : Hid (Row ((w.alloc (.cells #[.slice b.a1 B.n b.c1, .slice b.a2 B.D.n b.c2] 26)).alloc (.cells #[.slice none 0 0, .slice none 0 0] 26)) (w.heap.size + 1) 2 (fun i => if i = 0 then .slice none 0 0 else .slice none 0 0)) := rR
  have HA : Hid (BookAt Y ((w.alloc (.cells #[.slice b.a1 B.n b.c1, .slice b.a2 B.D.n b.c2] 26)).alloc (.cells #[.slice none 0 0, .slice none 0 0] 26)) b B) := h.blw (hA1.trans hA2)
  have hsz : ((w.alloc (.cells #[.slice b.a1 B.n b.c1, .slice b.a2 B.D.n b.c2] 26)).alloc (.cells #[.slice none 0 0, .slice none 0 0] 26)).heap.size = w.heap.size + 1 + 1 := by simp
  have Hb1 : Hid (Row ((w.alloc (.cells #[.slice b.a1 B.n b.c1, .slice b.a2 B.D.n b.c2] 26)).alloc (.cells #[.slice none 0 0, .slice none 0 0] 26)) b1 1 (fun _ => .int .i64 g)) := hb1.blw (hA1.trans hA2)
  have Hb2 : Hid (Row ((w.alloc (.cells #[.slice b.a1 B.n b.c1, .slice b.a2 B.D.n b.c2] 26)).alloc (.cells #[.slice none 0 0, .slice none 0 0] 26)) b2 1 (fun _ => .int .i64 y)) := hb2.blw (hA1.trans hA2)
  clear hA1 hA2 rR h hb1 hb2
  go_enter Try.func52, Try.ntmps52
  go_wp2_with fail
  refine (hold_any b B Y _ HA.out (fun x hx => by have := hY x hx; simp; omega)).mono ?_
  rintro e w1 ⟨h1, hb1⟩
  replace HR : Hid (Row w1 (w.heap.size + 1) 2 (fun i => if i = 0 then .slice none 0 0 else .slice none 0 0)) := HR.out.blw hb1
  replace Hb1 : Hid (Row w1 b1 1 (fun _ => .int .i64 g)) := Hb1.out.blw hb1
  replace Hb2 : Hid (Row w1 b2 1 (fun _ => .int .i64 y)) := Hb2.out.blw hb1
  replace HB : Hid (Blw w w1) := HB.out.trans hb1
  have HZ : Hid (w.heap.size + 1 + 1 ≤ w1.heap.size) := by have := hb1.size; show _ ≤ _; omega
  clear hb1 HA hsz
  rcases h1 with ⟨z, hg, rfl, hrow, hlo⟩ | ⟨hg, rfl⟩
  case inr =>
    have HG : Hid (¬ B.Good) := hg
    clear hg
    go_upto_region 3 with fail
    replace HR : Hid (Row (w1.alloc (.cells zero5 87)) (w.heap.size + 1) 2 (fun i => if i = 0 then .slice none 0 0 else .slice none 0 0)) := HR.out.blw ((Blw.refl _).alloc _)
    replace Hb1 : Hid (Row (w1.alloc (.cells zero5 87)) b1 1 (fun _ => .int .i64 g)) := Hb1.out.blw ((Blw.refl _).alloc _)
    replace Hb2 : Hid (Row (w1.alloc (.cells zero5 87)) b2 1 (fun _ => .int .i64 y)) := Hb2.out.blw ((Blw.refl _).alloc _)
    replace HB : Hid (Blw w (w1.alloc (.cells zero5 87))) := HB.out.alloc _
    clear HZ
    generalize w1.alloc (.cells zero5 87) = w2 at *
    obtain ⟨t0, t1⟩ := get2 HR.out
    have f0 := HR.out.frozen 0
    have f1 := HR.out.frozen 1
    clear HR Hb1 Hb2
    go_wp2
    exact bodyPost_ret (v := .tuple #[BV.zero.val BD.zero, .bool false]) (by simp [results, Try.results52, go_sem, t0, t1]) rfl (zero_givesT (z := w.heap.size + 1) (by omega) (Or.inr ⟨fun q => HG.out q.1, rfl, rfl⟩) HB.out)
  have HG : Hid B.Good := hg
  obtain ⟨n, c, ⟨kn, len, p, m⟩⟩ := B
  obtain ⟨a1, a2, q1, q2⟩ := b
  have hn4 : n = 4 := HG.out.n
  subst hn4
  have hk4 : kn ≤ 4 := HG.out.k.2
  simp only [BV.val] at *
  have hA : Blw w1 (w1.alloc (.cells (held5 c z kn) 87)) := (Blw.refl _).alloc _
  have H5 : Hid (Row (w1.alloc (.cells (held5 c z kn) 87)) w1.heap.size 5 (row5f c (.slice (some ⟨z, 0, none⟩) kn kn))) := row5 w1 (.int .i64 (c 0)) (.int .i64 (c 1)) (.int .i64 (c 2)) (.int .i64 (c 3)) (.slice (some ⟨z, 0, none⟩) kn kn) 87
  have HL : Hid (Row (w1.alloc (.cells (held5 c z kn) 87)) z (kn * 8) (lc p m)) := hrow.blw hA
  have hzz : w1.heap.size ≠ z := by have := hrow.lt; omega
  have hzl : z < w1.heap.size := hrow.lt
  have HLO : Hid (w.heap.size + 1 < z) := by show _ < _; simp only [World.size_alloc] at hlo; omega
  replace HR : Hid (Row (w1.alloc (.cells (held5 c z kn) 87)) (w.heap.size + 1) 2 (fun i => if i = 0 then .slice none 0 0 else .slice none 0 0)) := HR.out.blw hA
  replace Hb1 : Hid (Row (w1.alloc (.cells (held5 c z kn) 87)) b1 1 (fun _ => .int .i64 g)) := Hb1.out.blw hA
  replace Hb2 : Hid (Row (w1.alloc (.cells (held5 c z kn) 87)) b2 1 (fun _ => .int .i64 y)) := Hb2.out.blw hA
  replace HB : Hid (Blw w (w1.alloc (.cells (held5 c z kn) 87))) := HB.out.trans hA
  clear hg hA hrow hlo
  go_wp2_with fail
  generalize w1.alloc (.cells (held5 c z kn) 87) = w2 at *
  generalize w1.heap.size = zb at *
  refine (isPlace_any a _).mono ?_
  rintro e w2 ⟨r, rfl, hr, rfl⟩
  have HT : Hid (r = true ↔ pgOK a) := hr
  clear hr
  cases r
  · have HN : Hid (¬ pgOK a) := fun g => by have := HT.out.2 g; simp at this
    clear HT
    obtain ⟨t0, t1⟩ := get2 HR.out
    have f0 := HR.out.frozen 0
    have f1 := HR.out.frozen 1
    clear HR Hb1 Hb2
    go_wp2
    exact bodyPost_ret (v := .tuple #[BV.zero.val BD.zero, .bool false]) (by simp [results, Try.results52, go_sem, t0, t1]) rfl (zero_givesT (z := w.heap.size + 1) (by omega) (Or.inr ⟨fun q => HN.out q.2.1, rfl, rfl⟩) HB.out)
  have H1 : Hid (pgOK a) := HT.out.1 (by first | rfl | trivial)
  clear HT
  obtain ⟨x, hx, hx16⟩ : ∃ x : Nat, a = x ∧ x < 16 := ⟨a.toNat, by have := H1.out; unfold pgOK at this; omega, by have := H1.out; unfold pgOK at this; omega⟩
  subst hx
  obtain ⟨p0, p1, p2, p3, p4⟩ := get5 H5.out
  go_wp2_with fail
  clear p0 p1 p2 p3 p4
  refine (leafAt_any c z kn p m x _ hk4 (fun i hi => HG.out.top i hi) hx16 HL.out).mono ?_
  rintro e w3 ⟨rfl, hb2⟩
  replace HR : Hid (Row w3 (w.heap.size + 1) 2 (fun i => if i = 0 then .slice none 0 0 else .slice none 0 0)) := HR.out.blw hb2
  replace Hb1 : Hid (Row w3 b1 1 (fun _ => .int .i64 g)) := Hb1.out.blw hb2
  replace Hb2 : Hid (Row w3 b2 1 (fun _ => .int .i64 y)) := Hb2.out.blw hb2
  replace HB : Hid (Blw w w3) := HB.out.trans hb2
  replace H5 : Hid (Row w3 zb 5 (row5f c (.slice (some ⟨z, 0, none⟩) kn kn))) := H5.out.blw hb2
  replace HL : Hid (Row w3 z (kn * 8) (lc p m)) := HL.out.blw hb2
  clear hb2
  go_wp2_with fail
  obtain ⟨ox, hox⟩ : ∃ ox, ox = lfP c p x := ⟨_, rfl⟩
  obtain ⟨oy, hoy⟩ : ∃ oy, oy = lfP c m x := ⟨_, rfl⟩
  rw [← hox, ← hoy]
  have HOX : Hid (ox = lfP c p x) := hox
  have HOY : Hid (oy = lfP c m x) := hoy
  clear hox hoy
  refine (mapFn_any ox oy g y b1 b2 _ Hb1.out Hb2.out).mono ?_
  rintro e w4 ⟨r, rfl, hr, hb3⟩
  replace HR : Hid (Row w4 (w.heap.size + 1) 2 (fun i => if i = 0 then .slice none 0 0 else .slice none 0 0)) := HR.out.blw hb3
  replace Hb1 : Hid (Row w4 b1 1 (fun _ => .int .i64 g)) := Hb1.out.blw hb3
  replace Hb2 : Hid (Row w4 b2 1 (fun _ => .int .i64 y)) := Hb2.out.blw hb3
  replace HB : Hid (Blw w w4) := HB.out.trans hb3
  replace H5 : Hid (Row w4 zb 5 (row5f c (.slice (some ⟨z, 0, none⟩) kn kn))) := H5.out.blw hb3
  replace HL : Hid (Row w4 z (kn * 8) (lc p m)) := HL.out.blw hb3
  have HT : Hid (r = true ↔ (fun _ oy => oy = 0 ∧ pgOK g ∧ mayOK y) ox oy) := hr
  clear hr hb3
  have hA : Blw w4 (w4.alloc (.cells #[.int .i64 g, .int .i64 y] 78)) := (Blw.refl _).alloc _
  have HLF : Hid (Row (w4.alloc (.cells #[.int .i64 g, .int .i64 y] 78)) w4.heap.size 2 (fun i => if i = 0 then .int .i64 g else .int .i64 y)) := box2 w4 _ _ 78
  replace HR : Hid (Row (w4.alloc (.cells #[.int .i64 g, .int .i64 y] 78)) (w.heap.size + 1) 2 (fun i => if i = 0 then .slice none 0 0 else .slice none 0 0)) := HR.out.blw hA
  replace Hb1 : Hid (Row (w4.alloc (.cells #[.int .i64 g, .int .i64 y] 78)) b1 1 (fun _ => .int .i64 g)) := Hb1.out.blw hA
  replace Hb2 : Hid (Row (w4.alloc (.cells #[.int .i64 g, .int .i64 y] 78)) b2 1 (fun _ => .int .i64 y)) := Hb2.out.blw hA
  replace HB : Hid (Blw w (w4.alloc (.cells #[.int .i64 g, .int .i64 y] 78))) := HB.out.trans hA
  replace H5 : Hid (Row (w4.alloc (.cells #[.int .i64 g, .int .i64 y] 78)) zb 5 (row5f c (.slice (some ⟨z, 0, none⟩) kn kn))) := H5.out.blw hA
  replace HL : Hid (Row (w4.alloc (.cells #[.int .i64 g, .int .i64 y] 78)) z (kn * 8) (lc p m)) := HL.out.blw hA
  clear hA
  cases r
  · have HN : Hid (¬ (fun _ oy => oy = 0 ∧ pgOK g ∧ mayOK y) ox oy) := fun g => by have := HT.out.2 g; simp at this
    clear HT
    go_upto_region 6 with fail
    generalize w4.alloc (.cells #[.int .i64 g, .int .i64 y] 78) = w5 at *
    obtain ⟨t0, t1⟩ := get2 HR.out
    have f0 := HR.out.frozen 0
    have f1 := HR.out.frozen 1
    clear HR Hb1 Hb2
    go_wp2
    exact bodyPost_ret (v := .tuple #[BV.zero.val BD.zero, .bool false]) (by simp [results, Try.results52, go_sem, t0, t1]) rfl (zero_givesT (z := w.heap.size + 1) (by omega) (Or.inr ⟨fun q => HN.out (by have h3 : (fun _ oy => oy = 0 ∧ pgOK g ∧ mayOK y) (lfP c p x) (lfP c m x) := q.2.2.1; simp only [← HOX.out, ← HOY.out] at h3; exact h3), rfl, rfl⟩) HB.out)
  have H2 : Hid ((fun _ oy => oy = 0 ∧ pgOK g ∧ mayOK y) ox oy) := HT.out.1 (by first | rfl | trivial)
  clear HT
  obtain ⟨s0, s1⟩ := get2 HLF.out
  go_wp2_with fail
  generalize w4.alloc (.cells #[.int .i64 g, .int .i64 y] 78) = w5 at *
  clear s0 s1
  refine (put_any c z kn p m zb x _ _ _ hk4 (fun i hi => HG.out.top i hi) hx16 hzz H5.out HL.out).mono ?_
  rintro e w6 (⟨q, hgo, rfl, h5, hl, hm⟩ | ⟨hno, rfl, hb⟩)
  · have hz1 := HZ.out
    have hz2 := HLO.out
    replace HR : Hid (Row w6 (w.heap.size + 1) 2 (fun i => if i = 0 then .slice none 0 0 else .slice none 0 0)) := HR.out.mod hm (by omega)
    replace HB : Hid (Blw w w6) := Mod.blw HB.out hm (fun i hi => by omega)
    have HOUT : Hid ((chOut ⟨4, c, ⟨kn, len, p, m⟩⟩ (x : Int) (fun _ oy => oy = 0 ∧ pgOK g ∧ mayOK y) (fun _ => g) y) (chB ⟨4, c, ⟨kn, len, p, m⟩⟩ x q g y) true) := Or.inl ⟨⟨HG.out, H1.out, by rw [Int.toNat_natCast, ← HOX.out, ← HOY.out]; exact H2.out, q, by rw [Int.toNat_natCast]; exact hgo⟩, ⟨q, by rw [Int.toNat_natCast]; exact hgo, by rw [Int.toNat_natCast, ← HOX.out]⟩, rfl⟩
    unfold chB at HOUT
    dsimp only at HOUT
    generalize topsOf c (x / 4) q (upd2 p q (x % 4) g q) (upd2 m q (x % 4) y q) = c' at *
    generalize upd2 p q (x % 4) g = p' at *
    generalize upd2 m q (x % 4) y = m' at *
    obtain ⟨s0, s1, s2, s3, s4⟩ := get5 h5
    clear hgo h5 hm H5 HL HLF H2 HOX HOY Hb1 Hb2
    go_wp2_with fail
    clear s0 s1 s2 s3 s4
    refine (giveOut_any c' z kn p' m' _ hk4 hl).mono ?_
    rintro e w7 ⟨b7, rfl, own, hb7⟩
    have h67 := HB.out.size
    have hzr := HR.out.lt
    have FIN : Hid _ := fin_givesT (out := (chOut ⟨4, c, ⟨kn, len, p, m⟩⟩ (x : Int) (fun _ oy => oy = 0 ∧ pgOK g ∧ mayOK y) (fun _ => g) y)) (w := w) (W := w7) (z := w.heap.size + 1) (b := b7) (R := ⟨4, c', ⟨kn, fun _ => 4, p', m'⟩⟩) (by omega) HOUT.out (tot4 (c := c') hk4) (HB.out.trans hb7) own (fun x hx => ⟨by omega, by omega, hx.2⟩)
    obtain ⟨t0, t1⟩ := get2 (HR.out.blw hb7)
    have f0 := (HR.out.blw hb7).frozen 0
    have f1 := (HR.out.blw hb7).frozen 1
    clear own hb7 HR HB hz1 hz2 h67 hzr hl HOUT
    go_wp2
    exact bodyPost_ret (v := .tuple #[b7.val ⟨4, c', ⟨kn, fun _ => 4, p', m'⟩⟩, .bool true]) (by simp [results, Try.results52, go_sem, t0, t1]) rfl FIN.out
  · have HN : Hid (¬ ∃ q, goes c kn (x / 4) q) := hno
    replace HR : Hid (Row w6 (w.heap.size + 1) 2 (fun i => if i = 0 then .slice none 0 0 else .slice none 0 0)) := HR.out.blw hb
    replace HB : Hid (Blw w w6) := HB.out.trans hb
    clear hno hb H5 HL HLF HZ HLO
    obtain ⟨t0, t1⟩ := get2 HR.out
    have f0 := HR.out.frozen 0
    have f1 := HR.out.frozen 1
    clear HR Hb1 Hb2
    go_wp2
    exact bodyPost_ret (v := .tuple #[BV.zero.val BD.zero, .bool false]) (by simp [results, Try.results52, go_sem, t0, t1]) rfl (zero_givesT (z := w.heap.size + 1) (by omega) (Or.inr ⟨fun q => HN.out (by have := q.2.2.2; rw [Int.toNat_natCast] at this; exact this), rfl, rfl⟩) HB.out)
end Go.Proofs.Ytcfdagmcnaepgaa
/- A table without a leaf: the program's. -/
namespace Go.Proofs.Ytcfdagmcnaepgaa
open Go.RowKit
set_option linter.unusedSimpArgs false
set_option linter.unusedVariables false
set_option maxRecDepth 10000 in
set_option maxHeartbeats 6400000 in
theorem changeUnmap_any (b : BV) (B : BD) (a : Int) (Y : Nat → Prop) (w : World) (h : BookAt Y w b B) (hY : ∀ x, Y x → x < w.heap.size) :
    Calls Try.prog 52 #[b.val B, .int .i64 a, .func (.func 66) #[] #[]] w (GivesB (chOut B a (fun _ oy => ¬ oy = 0) (fun _ => 0) 0) w) := by
  have hA1 : Blw w (w.alloc (.cells #[.slice b.a1 B.n b.c1, .slice b.a2 B.D.n b.c2] 26)) := (Blw.refl _).alloc _
  have hA2 : Blw (w.alloc (.cells #[.slice b.a1 B.n b.c1, .slice b.a2 B.D.n b.c2] 26)) ((w.alloc (.cells #[.slice b.a1 B.n b.c1, .slice b.a2 B.D.n b.c2] 26)).alloc (.cells #[.slice none 0 0, .slice none 0 0] 26)) := (Blw.refl _).alloc _
  have HB : Hid (Blw w ((w.alloc (.cells #[.slice b.a1 B.n b.c1, .slice b.a2 B.D.n b.c2] 26)).alloc (.cells #[.slice none 0 0, .slice none 0 0] 26))) := hA1.trans hA2
  have rR := box2 (w.alloc (.cells #[.slice b.a1 B.n b.c1, .slice b.a2 B.D.n b.c2] 26)) (.slice none 0 0) (.slice none 0 0) 26
  rw [World.size_alloc] at rR
  have HR : Hid (Row ((w.alloc (.cells #[.slice b.a1 B.n b.c1, .slice b.a2 B.D.n b.c2] 26)).alloc (.cells #[.slice none 0 0, .slice none 0 0] 26)) (w.heap.size + 1) 2 (fun i => if i = 0 then .slice none 0 0 else .slice none 0 0)) := rR
  have HA : Hid (BookAt Y ((w.alloc (.cells #[.slice b.a1 B.n b.c1, .slice b.a2 B.D.n b.c2] 26)).alloc (.cells #[.slice none 0 0, .slice none 0 0] 26)) b B) := h.blw (hA1.trans hA2)
  have hsz : ((w.alloc (.cells #[.slice b.a1 B.n b.c1, .slice b.a2 B.D.n b.c2] 26)).alloc (.cells #[.slice none 0 0, .slice none 0 0] 26)).heap.size = w.heap.size + 1 + 1 := by simp
  clear hA1 hA2 rR h 
  go_enter Try.func52, Try.ntmps52
  go_wp2_with fail
  refine (hold_any b B Y _ HA.out (fun x hx => by have := hY x hx; simp; omega)).mono ?_
  rintro e w1 ⟨h1, hb1⟩
  replace HR : Hid (Row w1 (w.heap.size + 1) 2 (fun i => if i = 0 then .slice none 0 0 else .slice none 0 0)) := HR.out.blw hb1
  replace HB : Hid (Blw w w1) := HB.out.trans hb1
  have HZ : Hid (w.heap.size + 1 + 1 ≤ w1.heap.size) := by have := hb1.size; show _ ≤ _; omega
  clear hb1 HA hsz
  rcases h1 with ⟨z, hg, rfl, hrow, hlo⟩ | ⟨hg, rfl⟩
  case inr =>
    have HG : Hid (¬ B.Good) := hg
    clear hg
    go_upto_region 3 with fail
    replace HR : Hid (Row (w1.alloc (.cells zero5 87)) (w.heap.size + 1) 2 (fun i => if i = 0 then .slice none 0 0 else .slice none 0 0)) := HR.out.blw ((Blw.refl _).alloc _)
    replace HB : Hid (Blw w (w1.alloc (.cells zero5 87))) := HB.out.alloc _
    clear HZ
    generalize w1.alloc (.cells zero5 87) = w2 at *
    obtain ⟨t0, t1⟩ := get2 HR.out
    have f0 := HR.out.frozen 0
    have f1 := HR.out.frozen 1
    clear HR 
    go_wp2
    exact bodyPost_ret (v := .tuple #[BV.zero.val BD.zero, .bool false]) (by simp [results, Try.results52, go_sem, t0, t1]) rfl (zero_givesT (z := w.heap.size + 1) (by omega) (Or.inr ⟨fun q => HG.out q.1, rfl, rfl⟩) HB.out)
  have HG : Hid B.Good := hg
  obtain ⟨n, c, ⟨kn, len, p, m⟩⟩ := B
  obtain ⟨a1, a2, q1, q2⟩ := b
  have hn4 : n = 4 := HG.out.n
  subst hn4
  have hk4 : kn ≤ 4 := HG.out.k.2
  simp only [BV.val] at *
  have hA : Blw w1 (w1.alloc (.cells (held5 c z kn) 87)) := (Blw.refl _).alloc _
  have H5 : Hid (Row (w1.alloc (.cells (held5 c z kn) 87)) w1.heap.size 5 (row5f c (.slice (some ⟨z, 0, none⟩) kn kn))) := row5 w1 (.int .i64 (c 0)) (.int .i64 (c 1)) (.int .i64 (c 2)) (.int .i64 (c 3)) (.slice (some ⟨z, 0, none⟩) kn kn) 87
  have HL : Hid (Row (w1.alloc (.cells (held5 c z kn) 87)) z (kn * 8) (lc p m)) := hrow.blw hA
  have hzz : w1.heap.size ≠ z := by have := hrow.lt; omega
  have hzl : z < w1.heap.size := hrow.lt
  have HLO : Hid (w.heap.size + 1 < z) := by show _ < _; simp only [World.size_alloc] at hlo; omega
  replace HR : Hid (Row (w1.alloc (.cells (held5 c z kn) 87)) (w.heap.size + 1) 2 (fun i => if i = 0 then .slice none 0 0 else .slice none 0 0)) := HR.out.blw hA
  replace HB : Hid (Blw w (w1.alloc (.cells (held5 c z kn) 87))) := HB.out.trans hA
  clear hg hA hrow hlo
  go_wp2_with fail
  generalize w1.alloc (.cells (held5 c z kn) 87) = w2 at *
  generalize w1.heap.size = zb at *
  refine (isPlace_any a _).mono ?_
  rintro e w2 ⟨r, rfl, hr, rfl⟩
  have HT : Hid (r = true ↔ pgOK a) := hr
  clear hr
  cases r
  · have HN : Hid (¬ pgOK a) := fun g => by have := HT.out.2 g; simp at this
    clear HT
    obtain ⟨t0, t1⟩ := get2 HR.out
    have f0 := HR.out.frozen 0
    have f1 := HR.out.frozen 1
    clear HR 
    go_wp2
    exact bodyPost_ret (v := .tuple #[BV.zero.val BD.zero, .bool false]) (by simp [results, Try.results52, go_sem, t0, t1]) rfl (zero_givesT (z := w.heap.size + 1) (by omega) (Or.inr ⟨fun q => HN.out q.2.1, rfl, rfl⟩) HB.out)
  have H1 : Hid (pgOK a) := HT.out.1 (by first | rfl | trivial)
  clear HT
  obtain ⟨x, hx, hx16⟩ : ∃ x : Nat, a = x ∧ x < 16 := ⟨a.toNat, by have := H1.out; unfold pgOK at this; omega, by have := H1.out; unfold pgOK at this; omega⟩
  subst hx
  obtain ⟨p0, p1, p2, p3, p4⟩ := get5 H5.out
  go_wp2_with fail
  clear p0 p1 p2 p3 p4
  refine (leafAt_any c z kn p m x _ hk4 (fun i hi => HG.out.top i hi) hx16 HL.out).mono ?_
  rintro e w3 ⟨rfl, hb2⟩
  replace HR : Hid (Row w3 (w.heap.size + 1) 2 (fun i => if i = 0 then .slice none 0 0 else .slice none 0 0)) := HR.out.blw hb2
  replace HB : Hid (Blw w w3) := HB.out.trans hb2
  replace H5 : Hid (Row w3 zb 5 (row5f c (.slice (some ⟨z, 0, none⟩) kn kn))) := H5.out.blw hb2
  replace HL : Hid (Row w3 z (kn * 8) (lc p m)) := HL.out.blw hb2
  clear hb2
  go_wp2_with fail
  obtain ⟨ox, hox⟩ : ∃ ox, ox = lfP c p x := ⟨_, rfl⟩
  obtain ⟨oy, hoy⟩ : ∃ oy, oy = lfP c m x := ⟨_, rfl⟩
  rw [← hox, ← hoy]
  have HOX : Hid (ox = lfP c p x) := hox
  have HOY : Hid (oy = lfP c m x) := hoy
  clear hox hoy
  refine (unmapFn_any ox oy _).mono ?_
  rintro e w4 ⟨r, rfl, hr, hb3⟩
  replace HR : Hid (Row w4 (w.heap.size + 1) 2 (fun i => if i = 0 then .slice none 0 0 else .slice none 0 0)) := HR.out.blw hb3
  replace HB : Hid (Blw w w4) := HB.out.trans hb3
  replace H5 : Hid (Row w4 zb 5 (row5f c (.slice (some ⟨z, 0, none⟩) kn kn))) := H5.out.blw hb3
  replace HL : Hid (Row w4 z (kn * 8) (lc p m)) := HL.out.blw hb3
  have HT : Hid (r = true ↔ (fun _ oy => ¬ oy = 0) ox oy) := hr
  clear hr hb3
  have hA : Blw w4 (w4.alloc (.cells #[.int .i64 0, .int .i64 0] 78)) := (Blw.refl _).alloc _
  have HLF : Hid (Row (w4.alloc (.cells #[.int .i64 0, .int .i64 0] 78)) w4.heap.size 2 (fun i => if i = 0 then .int .i64 0 else .int .i64 0)) := box2 w4 _ _ 78
  replace HR : Hid (Row (w4.alloc (.cells #[.int .i64 0, .int .i64 0] 78)) (w.heap.size + 1) 2 (fun i => if i = 0 then .slice none 0 0 else .slice none 0 0)) := HR.out.blw hA
  replace HB : Hid (Blw w (w4.alloc (.cells #[.int .i64 0, .int .i64 0] 78))) := HB.out.trans hA
  replace H5 : Hid (Row (w4.alloc (.cells #[.int .i64 0, .int .i64 0] 78)) zb 5 (row5f c (.slice (some ⟨z, 0, none⟩) kn kn))) := H5.out.blw hA
  replace HL : Hid (Row (w4.alloc (.cells #[.int .i64 0, .int .i64 0] 78)) z (kn * 8) (lc p m)) := HL.out.blw hA
  clear hA
  cases r
  · have HN : Hid (¬ (fun _ oy => ¬ oy = 0) ox oy) := fun g => by have := HT.out.2 g; simp at this
    clear HT
    go_upto_region 6 with fail
    generalize w4.alloc (.cells #[.int .i64 0, .int .i64 0] 78) = w5 at *
    obtain ⟨t0, t1⟩ := get2 HR.out
    have f0 := HR.out.frozen 0
    have f1 := HR.out.frozen 1
    clear HR 
    go_wp2
    exact bodyPost_ret (v := .tuple #[BV.zero.val BD.zero, .bool false]) (by simp [results, Try.results52, go_sem, t0, t1]) rfl (zero_givesT (z := w.heap.size + 1) (by omega) (Or.inr ⟨fun q => HN.out (by have h3 : (fun _ oy => ¬ oy = 0) (lfP c p x) (lfP c m x) := q.2.2.1; simp only [← HOX.out, ← HOY.out] at h3; exact h3), rfl, rfl⟩) HB.out)
  have H2 : Hid ((fun _ oy => ¬ oy = 0) ox oy) := HT.out.1 (by first | rfl | trivial)
  clear HT
  obtain ⟨s0, s1⟩ := get2 HLF.out
  go_wp2_with fail
  generalize w4.alloc (.cells #[.int .i64 0, .int .i64 0] 78) = w5 at *
  clear s0 s1
  refine (put_any c z kn p m zb x _ _ _ hk4 (fun i hi => HG.out.top i hi) hx16 hzz H5.out HL.out).mono ?_
  rintro e w6 (⟨q, hgo, rfl, h5, hl, hm⟩ | ⟨hno, rfl, hb⟩)
  · have hz1 := HZ.out
    have hz2 := HLO.out
    replace HR : Hid (Row w6 (w.heap.size + 1) 2 (fun i => if i = 0 then .slice none 0 0 else .slice none 0 0)) := HR.out.mod hm (by omega)
    replace HB : Hid (Blw w w6) := Mod.blw HB.out hm (fun i hi => by omega)
    have HOUT : Hid ((chOut ⟨4, c, ⟨kn, len, p, m⟩⟩ (x : Int) (fun _ oy => ¬ oy = 0) (fun _ => 0) 0) (chB ⟨4, c, ⟨kn, len, p, m⟩⟩ x q 0 0) true) := Or.inl ⟨⟨HG.out, H1.out, by rw [Int.toNat_natCast, ← HOX.out, ← HOY.out]; exact H2.out, q, by rw [Int.toNat_natCast]; exact hgo⟩, ⟨q, by rw [Int.toNat_natCast]; exact hgo, by rw [Int.toNat_natCast, ← HOX.out]⟩, rfl⟩
    unfold chB at HOUT
    dsimp only at HOUT
    generalize topsOf c (x / 4) q (upd2 p q (x % 4) 0 q) (upd2 m q (x % 4) 0 q) = c' at *
    generalize upd2 p q (x % 4) 0 = p' at *
    generalize upd2 m q (x % 4) 0 = m' at *
    obtain ⟨s0, s1, s2, s3, s4⟩ := get5 h5
    clear hgo h5 hm H5 HL HLF H2 HOX HOY 
    go_wp2_with fail
    clear s0 s1 s2 s3 s4
    refine (giveOut_any c' z kn p' m' _ hk4 hl).mono ?_
    rintro e w7 ⟨b7, rfl, own, hb7⟩
    have h67 := HB.out.size
    have hzr := HR.out.lt
    have FIN : Hid _ := fin_givesT (out := (chOut ⟨4, c, ⟨kn, len, p, m⟩⟩ (x : Int) (fun _ oy => ¬ oy = 0) (fun _ => 0) 0)) (w := w) (W := w7) (z := w.heap.size + 1) (b := b7) (R := ⟨4, c', ⟨kn, fun _ => 4, p', m'⟩⟩) (by omega) HOUT.out (tot4 (c := c') hk4) (HB.out.trans hb7) own (fun x hx => ⟨by omega, by omega, hx.2⟩)
    obtain ⟨t0, t1⟩ := get2 (HR.out.blw hb7)
    have f0 := (HR.out.blw hb7).frozen 0
    have f1 := (HR.out.blw hb7).frozen 1
    clear own hb7 HR HB hz1 hz2 h67 hzr hl HOUT
    go_wp2
    exact bodyPost_ret (v := .tuple #[b7.val ⟨4, c', ⟨kn, fun _ => 4, p', m'⟩⟩, .bool true]) (by simp [results, Try.results52, go_sem, t0, t1]) rfl FIN.out
  · have HN : Hid (¬ ∃ q, goes c kn (x / 4) q) := hno
    replace HR : Hid (Row w6 (w.heap.size + 1) 2 (fun i => if i = 0 then .slice none 0 0 else .slice none 0 0)) := HR.out.blw hb
    replace HB : Hid (Blw w w6) := HB.out.trans hb
    clear hno hb H5 HL HLF HZ HLO
    obtain ⟨t0, t1⟩ := get2 HR.out
    have f0 := HR.out.frozen 0
    have f1 := HR.out.frozen 1
    clear HR 
    go_wp2
    exact bodyPost_ret (v := .tuple #[BV.zero.val BD.zero, .bool false]) (by simp [results, Try.results52, go_sem, t0, t1]) rfl (zero_givesT (z := w.heap.size + 1) (by omega) (Or.inr ⟨fun q => HN.out (by have := q.2.2.2; rw [Int.toNat_natCast] at this; exact this), rfl, rfl⟩) HB.out)
end Go.Proofs.Ytcfdagmcnaepgaa
/- A leaf that may other: the program's. -/
namespace Go.Proofs.Ytcfdagmcnaepgaa
open Go.RowKit
set_option linter.unusedSimpArgs false
set_option linter.unusedVariables false
set_option maxRecDepth 10000 in
set_option maxHeartbeats 6400000 in
theorem changeProt_any (b : BV) (B : BD) (a y : Int) (b2 : Nat) (Y : Nat → Prop) (w : World) (h : BookAt Y w b B) (hY : ∀ x, Y x → x < w.heap.size) (hb2 : Row w b2 1 (fun _ => .int .i64 y)) :
    Calls Try.prog 52 #[b.val B, .int .i64 a, .func (.func 67) #[] #[.pointer (some ⟨b2, 0, none⟩)]] w (GivesB (chOut B a (fun _ oy => ¬ oy = 0 ∧ mayOK y) (fun o => o) y) w) := by
  have hA1 : Blw w (w.alloc (.cells #[.slice b.a1 B.n b.c1, .slice b.a2 B.D.n b.c2] 26)) := (Blw.refl _).alloc _
  have hA2 : Blw (w.alloc (.cells #[.slice b.a1 B.n b.c1, .slice b.a2 B.D.n b.c2] 26)) ((w.alloc (.cells #[.slice b.a1 B.n b.c1, .slice b.a2 B.D.n b.c2] 26)).alloc (.cells #[.slice none 0 0, .slice none 0 0] 26)) := (Blw.refl _).alloc _
  have HB : Hid (Blw w ((w.alloc (.cells #[.slice b.a1 B.n b.c1, .slice b.a2 B.D.n b.c2] 26)).alloc (.cells #[.slice none 0 0, .slice none 0 0] 26))) := hA1.trans hA2
  have rR := box2 (w.alloc (.cells #[.slice b.a1 B.n b.c1, .slice b.a2 B.D.n b.c2] 26)) (.slice none 0 0) (.slice none 0 0) 26
  rw [World.size_alloc] at rR
  have HR : Hid (Row ((w.alloc (.cells #[.slice b.a1 B.n b.c1, .slice b.a2 B.D.n b.c2] 26)).alloc (.cells #[.slice none 0 0, .slice none 0 0] 26)) (w.heap.size + 1) 2 (fun i => if i = 0 then .slice none 0 0 else .slice none 0 0)) := rR
  have HA : Hid (BookAt Y ((w.alloc (.cells #[.slice b.a1 B.n b.c1, .slice b.a2 B.D.n b.c2] 26)).alloc (.cells #[.slice none 0 0, .slice none 0 0] 26)) b B) := h.blw (hA1.trans hA2)
  have hsz : ((w.alloc (.cells #[.slice b.a1 B.n b.c1, .slice b.a2 B.D.n b.c2] 26)).alloc (.cells #[.slice none 0 0, .slice none 0 0] 26)).heap.size = w.heap.size + 1 + 1 := by simp
  have Hb2 : Hid (Row ((w.alloc (.cells #[.slice b.a1 B.n b.c1, .slice b.a2 B.D.n b.c2] 26)).alloc (.cells #[.slice none 0 0, .slice none 0 0] 26)) b2 1 (fun _ => .int .i64 y)) := hb2.blw (hA1.trans hA2)
  clear hA1 hA2 rR h hb2
  go_enter Try.func52, Try.ntmps52
  go_wp2_with fail
  refine (hold_any b B Y _ HA.out (fun x hx => by have := hY x hx; simp; omega)).mono ?_
  rintro e w1 ⟨h1, hb1⟩
  replace HR : Hid (Row w1 (w.heap.size + 1) 2 (fun i => if i = 0 then .slice none 0 0 else .slice none 0 0)) := HR.out.blw hb1
  replace Hb2 : Hid (Row w1 b2 1 (fun _ => .int .i64 y)) := Hb2.out.blw hb1
  replace HB : Hid (Blw w w1) := HB.out.trans hb1
  have HZ : Hid (w.heap.size + 1 + 1 ≤ w1.heap.size) := by have := hb1.size; show _ ≤ _; omega
  clear hb1 HA hsz
  rcases h1 with ⟨z, hg, rfl, hrow, hlo⟩ | ⟨hg, rfl⟩
  case inr =>
    have HG : Hid (¬ B.Good) := hg
    clear hg
    go_upto_region 3 with fail
    replace HR : Hid (Row (w1.alloc (.cells zero5 87)) (w.heap.size + 1) 2 (fun i => if i = 0 then .slice none 0 0 else .slice none 0 0)) := HR.out.blw ((Blw.refl _).alloc _)
    replace Hb2 : Hid (Row (w1.alloc (.cells zero5 87)) b2 1 (fun _ => .int .i64 y)) := Hb2.out.blw ((Blw.refl _).alloc _)
    replace HB : Hid (Blw w (w1.alloc (.cells zero5 87))) := HB.out.alloc _
    clear HZ
    generalize w1.alloc (.cells zero5 87) = w2 at *
    obtain ⟨t0, t1⟩ := get2 HR.out
    have f0 := HR.out.frozen 0
    have f1 := HR.out.frozen 1
    clear HR Hb2
    go_wp2
    exact bodyPost_ret (v := .tuple #[BV.zero.val BD.zero, .bool false]) (by simp [results, Try.results52, go_sem, t0, t1]) rfl (zero_givesT (z := w.heap.size + 1) (by omega) (Or.inr ⟨fun q => HG.out q.1, rfl, rfl⟩) HB.out)
  have HG : Hid B.Good := hg
  obtain ⟨n, c, ⟨kn, len, p, m⟩⟩ := B
  obtain ⟨a1, a2, q1, q2⟩ := b
  have hn4 : n = 4 := HG.out.n
  subst hn4
  have hk4 : kn ≤ 4 := HG.out.k.2
  simp only [BV.val] at *
  have hA : Blw w1 (w1.alloc (.cells (held5 c z kn) 87)) := (Blw.refl _).alloc _
  have H5 : Hid (Row (w1.alloc (.cells (held5 c z kn) 87)) w1.heap.size 5 (row5f c (.slice (some ⟨z, 0, none⟩) kn kn))) := row5 w1 (.int .i64 (c 0)) (.int .i64 (c 1)) (.int .i64 (c 2)) (.int .i64 (c 3)) (.slice (some ⟨z, 0, none⟩) kn kn) 87
  have HL : Hid (Row (w1.alloc (.cells (held5 c z kn) 87)) z (kn * 8) (lc p m)) := hrow.blw hA
  have hzz : w1.heap.size ≠ z := by have := hrow.lt; omega
  have hzl : z < w1.heap.size := hrow.lt
  have HLO : Hid (w.heap.size + 1 < z) := by show _ < _; simp only [World.size_alloc] at hlo; omega
  replace HR : Hid (Row (w1.alloc (.cells (held5 c z kn) 87)) (w.heap.size + 1) 2 (fun i => if i = 0 then .slice none 0 0 else .slice none 0 0)) := HR.out.blw hA
  replace Hb2 : Hid (Row (w1.alloc (.cells (held5 c z kn) 87)) b2 1 (fun _ => .int .i64 y)) := Hb2.out.blw hA
  replace HB : Hid (Blw w (w1.alloc (.cells (held5 c z kn) 87))) := HB.out.trans hA
  clear hg hA hrow hlo
  go_wp2_with fail
  generalize w1.alloc (.cells (held5 c z kn) 87) = w2 at *
  generalize w1.heap.size = zb at *
  refine (isPlace_any a _).mono ?_
  rintro e w2 ⟨r, rfl, hr, rfl⟩
  have HT : Hid (r = true ↔ pgOK a) := hr
  clear hr
  cases r
  · have HN : Hid (¬ pgOK a) := fun g => by have := HT.out.2 g; simp at this
    clear HT
    obtain ⟨t0, t1⟩ := get2 HR.out
    have f0 := HR.out.frozen 0
    have f1 := HR.out.frozen 1
    clear HR Hb2
    go_wp2
    exact bodyPost_ret (v := .tuple #[BV.zero.val BD.zero, .bool false]) (by simp [results, Try.results52, go_sem, t0, t1]) rfl (zero_givesT (z := w.heap.size + 1) (by omega) (Or.inr ⟨fun q => HN.out q.2.1, rfl, rfl⟩) HB.out)
  have H1 : Hid (pgOK a) := HT.out.1 (by first | rfl | trivial)
  clear HT
  obtain ⟨x, hx, hx16⟩ : ∃ x : Nat, a = x ∧ x < 16 := ⟨a.toNat, by have := H1.out; unfold pgOK at this; omega, by have := H1.out; unfold pgOK at this; omega⟩
  subst hx
  obtain ⟨p0, p1, p2, p3, p4⟩ := get5 H5.out
  go_wp2_with fail
  clear p0 p1 p2 p3 p4
  refine (leafAt_any c z kn p m x _ hk4 (fun i hi => HG.out.top i hi) hx16 HL.out).mono ?_
  rintro e w3 ⟨rfl, hb2⟩
  replace HR : Hid (Row w3 (w.heap.size + 1) 2 (fun i => if i = 0 then .slice none 0 0 else .slice none 0 0)) := HR.out.blw hb2
  replace Hb2 : Hid (Row w3 b2 1 (fun _ => .int .i64 y)) := Hb2.out.blw hb2
  replace HB : Hid (Blw w w3) := HB.out.trans hb2
  replace H5 : Hid (Row w3 zb 5 (row5f c (.slice (some ⟨z, 0, none⟩) kn kn))) := H5.out.blw hb2
  replace HL : Hid (Row w3 z (kn * 8) (lc p m)) := HL.out.blw hb2
  clear hb2
  go_wp2_with fail
  obtain ⟨ox, hox⟩ : ∃ ox, ox = lfP c p x := ⟨_, rfl⟩
  obtain ⟨oy, hoy⟩ : ∃ oy, oy = lfP c m x := ⟨_, rfl⟩
  rw [← hox, ← hoy]
  have HOX : Hid (ox = lfP c p x) := hox
  have HOY : Hid (oy = lfP c m x) := hoy
  clear hox hoy
  refine (protFn_any ox oy y b2 _ Hb2.out).mono ?_
  rintro e w4 ⟨r, rfl, hr, hb3⟩
  replace HR : Hid (Row w4 (w.heap.size + 1) 2 (fun i => if i = 0 then .slice none 0 0 else .slice none 0 0)) := HR.out.blw hb3
  replace Hb2 : Hid (Row w4 b2 1 (fun _ => .int .i64 y)) := Hb2.out.blw hb3
  replace HB : Hid (Blw w w4) := HB.out.trans hb3
  replace H5 : Hid (Row w4 zb 5 (row5f c (.slice (some ⟨z, 0, none⟩) kn kn))) := H5.out.blw hb3
  replace HL : Hid (Row w4 z (kn * 8) (lc p m)) := HL.out.blw hb3
  have HT : Hid (r = true ↔ (fun _ oy => ¬ oy = 0 ∧ mayOK y) ox oy) := hr
  clear hr hb3
  have hA : Blw w4 (w4.alloc (.cells #[.int .i64 ox, .int .i64 y] 78)) := (Blw.refl _).alloc _
  have HLF : Hid (Row (w4.alloc (.cells #[.int .i64 ox, .int .i64 y] 78)) w4.heap.size 2 (fun i => if i = 0 then .int .i64 ox else .int .i64 y)) := box2 w4 _ _ 78
  replace HR : Hid (Row (w4.alloc (.cells #[.int .i64 ox, .int .i64 y] 78)) (w.heap.size + 1) 2 (fun i => if i = 0 then .slice none 0 0 else .slice none 0 0)) := HR.out.blw hA
  replace Hb2 : Hid (Row (w4.alloc (.cells #[.int .i64 ox, .int .i64 y] 78)) b2 1 (fun _ => .int .i64 y)) := Hb2.out.blw hA
  replace HB : Hid (Blw w (w4.alloc (.cells #[.int .i64 ox, .int .i64 y] 78))) := HB.out.trans hA
  replace H5 : Hid (Row (w4.alloc (.cells #[.int .i64 ox, .int .i64 y] 78)) zb 5 (row5f c (.slice (some ⟨z, 0, none⟩) kn kn))) := H5.out.blw hA
  replace HL : Hid (Row (w4.alloc (.cells #[.int .i64 ox, .int .i64 y] 78)) z (kn * 8) (lc p m)) := HL.out.blw hA
  clear hA
  cases r
  · have HN : Hid (¬ (fun _ oy => ¬ oy = 0 ∧ mayOK y) ox oy) := fun g => by have := HT.out.2 g; simp at this
    clear HT
    go_upto_region 6 with fail
    generalize w4.alloc (.cells #[.int .i64 ox, .int .i64 y] 78) = w5 at *
    obtain ⟨t0, t1⟩ := get2 HR.out
    have f0 := HR.out.frozen 0
    have f1 := HR.out.frozen 1
    clear HR Hb2
    go_wp2
    exact bodyPost_ret (v := .tuple #[BV.zero.val BD.zero, .bool false]) (by simp [results, Try.results52, go_sem, t0, t1]) rfl (zero_givesT (z := w.heap.size + 1) (by omega) (Or.inr ⟨fun q => HN.out (by have h3 : (fun _ oy => ¬ oy = 0 ∧ mayOK y) (lfP c p x) (lfP c m x) := q.2.2.1; simp only [← HOX.out, ← HOY.out] at h3; exact h3), rfl, rfl⟩) HB.out)
  have H2 : Hid ((fun _ oy => ¬ oy = 0 ∧ mayOK y) ox oy) := HT.out.1 (by first | rfl | trivial)
  clear HT
  obtain ⟨s0, s1⟩ := get2 HLF.out
  go_wp2_with fail
  generalize w4.alloc (.cells #[.int .i64 ox, .int .i64 y] 78) = w5 at *
  clear s0 s1
  refine (put_any c z kn p m zb x _ _ _ hk4 (fun i hi => HG.out.top i hi) hx16 hzz H5.out HL.out).mono ?_
  rintro e w6 (⟨q, hgo, rfl, h5, hl, hm⟩ | ⟨hno, rfl, hb⟩)
  · have hz1 := HZ.out
    have hz2 := HLO.out
    replace HR : Hid (Row w6 (w.heap.size + 1) 2 (fun i => if i = 0 then .slice none 0 0 else .slice none 0 0)) := HR.out.mod hm (by omega)
    replace HB : Hid (Blw w w6) := Mod.blw HB.out hm (fun i hi => by omega)
    have HOUT : Hid ((chOut ⟨4, c, ⟨kn, len, p, m⟩⟩ (x : Int) (fun _ oy => ¬ oy = 0 ∧ mayOK y) (fun o => o) y) (chB ⟨4, c, ⟨kn, len, p, m⟩⟩ x q ox y) true) := Or.inl ⟨⟨HG.out, H1.out, by rw [Int.toNat_natCast, ← HOX.out, ← HOY.out]; exact H2.out, q, by rw [Int.toNat_natCast]; exact hgo⟩, ⟨q, by rw [Int.toNat_natCast]; exact hgo, by rw [Int.toNat_natCast, ← HOX.out]⟩, rfl⟩
    unfold chB at HOUT
    dsimp only at HOUT
    generalize topsOf c (x / 4) q (upd2 p q (x % 4) ox q) (upd2 m q (x % 4) y q) = c' at *
    generalize upd2 p q (x % 4) ox = p' at *
    generalize upd2 m q (x % 4) y = m' at *
    obtain ⟨s0, s1, s2, s3, s4⟩ := get5 h5
    clear hgo h5 hm H5 HL HLF H2 HOX HOY Hb2
    go_wp2_with fail
    clear s0 s1 s2 s3 s4
    refine (giveOut_any c' z kn p' m' _ hk4 hl).mono ?_
    rintro e w7 ⟨b7, rfl, own, hb7⟩
    have h67 := HB.out.size
    have hzr := HR.out.lt
    have FIN : Hid _ := fin_givesT (out := (chOut ⟨4, c, ⟨kn, len, p, m⟩⟩ (x : Int) (fun _ oy => ¬ oy = 0 ∧ mayOK y) (fun o => o) y)) (w := w) (W := w7) (z := w.heap.size + 1) (b := b7) (R := ⟨4, c', ⟨kn, fun _ => 4, p', m'⟩⟩) (by omega) HOUT.out (tot4 (c := c') hk4) (HB.out.trans hb7) own (fun x hx => ⟨by omega, by omega, hx.2⟩)
    obtain ⟨t0, t1⟩ := get2 (HR.out.blw hb7)
    have f0 := (HR.out.blw hb7).frozen 0
    have f1 := (HR.out.blw hb7).frozen 1
    clear own hb7 HR HB hz1 hz2 h67 hzr hl HOUT
    go_wp2
    exact bodyPost_ret (v := .tuple #[b7.val ⟨4, c', ⟨kn, fun _ => 4, p', m'⟩⟩, .bool true]) (by simp [results, Try.results52, go_sem, t0, t1]) rfl FIN.out
  · have HN : Hid (¬ ∃ q, goes c kn (x / 4) q) := hno
    replace HR : Hid (Row w6 (w.heap.size + 1) 2 (fun i => if i = 0 then .slice none 0 0 else .slice none 0 0)) := HR.out.blw hb
    replace HB : Hid (Blw w w6) := HB.out.trans hb
    clear hno hb H5 HL HLF HZ HLO
    obtain ⟨t0, t1⟩ := get2 HR.out
    have f0 := HR.out.frozen 0
    have f1 := HR.out.frozen 1
    clear HR Hb2
    go_wp2
    exact bodyPost_ret (v := .tuple #[BV.zero.val BD.zero, .bool false]) (by simp [results, Try.results52, go_sem, t0, t1]) rfl (zero_givesT (z := w.heap.size + 1) (by omega) (Or.inr ⟨fun q => HN.out (by have := q.2.2.2; rw [Int.toNat_natCast] at this; exact this), rfl, rfl⟩) HB.out)
end Go.Proofs.Ytcfdagmcnaepgaa
/- MapPage, UnmapPage, ProtectPage: the program's. -/
namespace Go.Proofs.Ytcfdagmcnaepgaa
open Go.RowKit
set_option linter.unusedSimpArgs false
set_option linter.unusedVariables false
theorem pass_givesT {out : BD → Bool → Prop} {X : Nat → Prop} {w W : World} {z : Nat} {b : BV} {R : BD} {r : Bool} (hz : w.heap.size ≤ z) (ho : out R r) (hs : R.n + (R.D.n + R.D.tot) ≤ 1048576) (hb : Blw w W) (own : BookOwn X W b R) (hX : ∀ x, X x → w.heap.size ≤ x ∧ x ≠ z ∧ x < W.heap.size) :
    GivesB out w (.returned (.tuple #[b.val R, .bool r])) ((W.setCell ⟨z, 0, none⟩ (.slice b.a1 R.n b.c1)).setCell ⟨z, 1, none⟩ (.slice b.a2 R.D.n b.c2)) := by
  have hm := set2_mod (X := fun x => x = z) W rfl (.slice b.a1 R.n b.c1) (.slice b.a2 R.D.n b.c2)
  have := hm.size
  exact ⟨b, R, r, rfl, ho, hs, (own.mod hm (fun x hx e => (hX x hx).2.1 e)).mono (fun x hx => by have := hX x hx; omega), set2_blw hb hz _ _⟩
set_option maxRecDepth 10000 in
set_option maxHeartbeats 1600000 in
theorem implMap_any (b : BV) (B : BD) (a g y : Int) (Y : Nat → Prop) (w : World) (h : BookAt Y w b B) (hY : ∀ x, Y x → x < w.heap.size) :
    Calls Try.prog 9 #[b.val B, .int .i64 a, .int .i64 g, .int .i64 y] w (GivesB (chOut B a (fun _ oy => oy = 0 ∧ pgOK g ∧ mayOK y) (fun _ => g) y) w) := by
  have hb0 : Blw w ((((w.alloc (.cells #[.slice b.a1 B.n b.c1, .slice b.a2 B.D.n b.c2] 26)).alloc (.cells #[.int .i64 g] 3)).alloc (.cells #[.int .i64 y] 3)).alloc (.cells #[.slice none 0 0, .slice none 0 0] 26)) := ((((Blw.refl _).alloc _).alloc _).alloc _).alloc _
  have HA : Hid (BookAt Y ((((w.alloc (.cells #[.slice b.a1 B.n b.c1, .slice b.a2 B.D.n b.c2] 26)).alloc (.cells #[.int .i64 g] 3)).alloc (.cells #[.int .i64 y] 3)).alloc (.cells #[.slice none 0 0, .slice none 0 0] 26)) b B) := h.blw hb0
  have rA := (box2 w (.slice b.a1 B.n b.c1) (.slice b.a2 B.D.n b.c2) 26).blw (show Blw (w.alloc (.cells #[.slice b.a1 B.n b.c1, .slice b.a2 B.D.n b.c2] 26)) ((((w.alloc (.cells #[.slice b.a1 B.n b.c1, .slice b.a2 B.D.n b.c2] 26)).alloc (.cells #[.int .i64 g] 3)).alloc (.cells #[.int .i64 y] 3)).alloc (.cells #[.slice none 0 0, .slice none 0 0] 26)) from (((Blw.refl _).alloc _).alloc _).alloc _)
  have rR := box2 (((w.alloc (.cells #[.slice b.a1 B.n b.c1, .slice b.a2 B.D.n b.c2] 26)).alloc (.cells #[.int .i64 g] 3)).alloc (.cells #[.int .i64 y] 3)) (.slice none 0 0) (.slice none 0 0) 26
  simp only [World.size_alloc] at rR
  have hc0 := (box1 (w.alloc (.cells #[.slice b.a1 B.n b.c1, .slice b.a2 B.D.n b.c2] 26)) (.int .i64 g) 3).blw (show Blw ((w.alloc (.cells #[.slice b.a1 B.n b.c1, .slice b.a2 B.D.n b.c2] 26)).alloc (.cells #[.int .i64 g] 3)) ((((w.alloc (.cells #[.slice b.a1 B.n b.c1, .slice b.a2 B.D.n b.c2] 26)).alloc (.cells #[.int .i64 g] 3)).alloc (.cells #[.int .i64 y] 3)).alloc (.cells #[.slice none 0 0, .slice none 0 0] 26)) from ((Blw.refl _).alloc _).alloc _)
  simp only [World.size_alloc] at hc0
  have hc1 := (box1 ((w.alloc (.cells #[.slice b.a1 B.n b.c1, .slice b.a2 B.D.n b.c2] 26)).alloc (.cells #[.int .i64 g] 3)) (.int .i64 y) 3).blw (show Blw (((w.alloc (.cells #[.slice b.a1 B.n b.c1, .slice b.a2 B.D.n b.c2] 26)).alloc (.cells #[.int .i64 g] 3)).alloc (.cells #[.int .i64 y] 3)) ((((w.alloc (.cells #[.slice b.a1 B.n b.c1, .slice b.a2 B.D.n b.c2] 26)).alloc (.cells #[.int .i64 g] 3)).alloc (.cells #[.int .i64 y] 3)).alloc (.cells #[.slice none 0 0, .slice none 0 0] 26)) from (Blw.refl _).alloc _)
  simp only [World.size_alloc] at hc1
  have hsz : ((((w.alloc (.cells #[.slice b.a1 B.n b.c1, .slice b.a2 B.D.n b.c2] 26)).alloc (.cells #[.int .i64 g] 3)).alloc (.cells #[.int .i64 y] 3)).alloc (.cells #[.slice none 0 0, .slice none 0 0] 26)).heap.size = w.heap.size + 1 + 1 + 1 + 1 := by simp
  clear h
  go_enter Try.func9, Try.ntmps9
  obtain ⟨p0, p1⟩ := get2 rA
  go_wp2_with fail
  clear p0 p1 rA
  revert hb0 HA rR hc0 hc1 hsz
  generalize ((((w.alloc (.cells #[.slice b.a1 B.n b.c1, .slice b.a2 B.D.n b.c2] 26)).alloc (.cells #[.int .i64 g] 3)).alloc (.cells #[.int .i64 y] 3)).alloc (.cells #[.slice none 0 0, .slice none 0 0] 26)) = w0
  intro hb0 HA rR hc0 hc1 hsz
  refine (changeMap_any b B a g y (w.heap.size + 1) (w.heap.size + 1 + 1) Y _ HA.out (fun x hx => by have := hY x hx; omega) hc0 hc1).mono ?_
  rintro e w1 ⟨b1, R, r, rfl, ho, hs, own, hb1⟩
  have hr := rR.blw hb1
  have hlt := hr.lt
  have FIN : Hid _ := pass_givesT (w := w) (W := w1) (z := w.heap.size + 1 + 1 + 1) (by omega) ho hs (hb0.trans hb1) own (fun x hx => ⟨by omega, by omega, hx.2⟩)
  obtain ⟨t0, t1⟩ := get2 hr
  have f0 := hr.frozen 0
  have f1 := hr.frozen 1
  clear HA rR hb0 hb1 own ho hs hr hsz hlt hc0 hc1
  go_wp2
  exact bodyPost_ret (v := .tuple #[b1.val R, .bool r]) (by simp [results, Try.results9, go_sem, t0, t1]) rfl FIN.out
set_option maxRecDepth 10000 in
set_option maxHeartbeats 1600000 in
theorem implUnmap_any (b : BV) (B : BD) (a : Int) (Y : Nat → Prop) (w : World) (h : BookAt Y w b B) (hY : ∀ x, Y x → x < w.heap.size) :
    Calls Try.prog 15 #[b.val B, .int .i64 a] w (GivesB (chOut B a (fun _ oy => ¬ oy = 0) (fun _ => 0) 0) w) := by
  have hb0 : Blw w ((w.alloc (.cells #[.slice b.a1 B.n b.c1, .slice b.a2 B.D.n b.c2] 26)).alloc (.cells #[.slice none 0 0, .slice none 0 0] 26)) := ((Blw.refl _).alloc _).alloc _
  have HA : Hid (BookAt Y ((w.alloc (.cells #[.slice b.a1 B.n b.c1, .slice b.a2 B.D.n b.c2] 26)).alloc (.cells #[.slice none 0 0, .slice none 0 0] 26)) b B) := h.blw hb0
  have rA := (box2 w (.slice b.a1 B.n b.c1) (.slice b.a2 B.D.n b.c2) 26).blw (show Blw (w.alloc (.cells #[.slice b.a1 B.n b.c1, .slice b.a2 B.D.n b.c2] 26)) ((w.alloc (.cells #[.slice b.a1 B.n b.c1, .slice b.a2 B.D.n b.c2] 26)).alloc (.cells #[.slice none 0 0, .slice none 0 0] 26)) from (Blw.refl _).alloc _)
  have rR := box2 (w.alloc (.cells #[.slice b.a1 B.n b.c1, .slice b.a2 B.D.n b.c2] 26)) (.slice none 0 0) (.slice none 0 0) 26
  simp only [World.size_alloc] at rR
  have hsz : ((w.alloc (.cells #[.slice b.a1 B.n b.c1, .slice b.a2 B.D.n b.c2] 26)).alloc (.cells #[.slice none 0 0, .slice none 0 0] 26)).heap.size = w.heap.size + 1 + 1 := by simp
  clear h
  go_enter Try.func15, Try.ntmps15
  obtain ⟨p0, p1⟩ := get2 rA
  go_wp2_with fail
  clear p0 p1 rA
  revert hb0 HA rR  hsz
  generalize ((w.alloc (.cells #[.slice b.a1 B.n b.c1, .slice b.a2 B.D.n b.c2] 26)).alloc (.cells #[.slice none 0 0, .slice none 0 0] 26)) = w0
  intro hb0 HA rR  hsz
  refine (changeUnmap_any b B a Y _ HA.out (fun x hx => by have := hY x hx; omega)).mono ?_
  rintro e w1 ⟨b1, R, r, rfl, ho, hs, own, hb1⟩
  have hr := rR.blw hb1
  have hlt := hr.lt
  have FIN : Hid _ := pass_givesT (w := w) (W := w1) (z := w.heap.size + 1) (by omega) ho hs (hb0.trans hb1) own (fun x hx => ⟨by omega, by omega, hx.2⟩)
  obtain ⟨t0, t1⟩ := get2 hr
  have f0 := hr.frozen 0
  have f1 := hr.frozen 1
  clear HA rR hb0 hb1 own ho hs hr hsz hlt 
  go_wp2
  exact bodyPost_ret (v := .tuple #[b1.val R, .bool r]) (by simp [results, Try.results15, go_sem, t0, t1]) rfl FIN.out
set_option maxRecDepth 10000 in
set_option maxHeartbeats 1600000 in
theorem implProt_any (b : BV) (B : BD) (a y : Int) (Y : Nat → Prop) (w : World) (h : BookAt Y w b B) (hY : ∀ x, Y x → x < w.heap.size) :
    Calls Try.prog 20 #[b.val B, .int .i64 a, .int .i64 y] w (GivesB (chOut B a (fun _ oy => ¬ oy = 0 ∧ mayOK y) (fun o => o) y) w) := by
  have hb0 : Blw w (((w.alloc (.cells #[.slice b.a1 B.n b.c1, .slice b.a2 B.D.n b.c2] 26)).alloc (.cells #[.int .i64 y] 3)).alloc (.cells #[.slice none 0 0, .slice none 0 0] 26)) := (((Blw.refl _).alloc _).alloc _).alloc _
  have HA : Hid (BookAt Y (((w.alloc (.cells #[.slice b.a1 B.n b.c1, .slice b.a2 B.D.n b.c2] 26)).alloc (.cells #[.int .i64 y] 3)).alloc (.cells #[.slice none 0 0, .slice none 0 0] 26)) b B) := h.blw hb0
  have rA := (box2 w (.slice b.a1 B.n b.c1) (.slice b.a2 B.D.n b.c2) 26).blw (show Blw (w.alloc (.cells #[.slice b.a1 B.n b.c1, .slice b.a2 B.D.n b.c2] 26)) (((w.alloc (.cells #[.slice b.a1 B.n b.c1, .slice b.a2 B.D.n b.c2] 26)).alloc (.cells #[.int .i64 y] 3)).alloc (.cells #[.slice none 0 0, .slice none 0 0] 26)) from ((Blw.refl _).alloc _).alloc _)
  have rR := box2 ((w.alloc (.cells #[.slice b.a1 B.n b.c1, .slice b.a2 B.D.n b.c2] 26)).alloc (.cells #[.int .i64 y] 3)) (.slice none 0 0) (.slice none 0 0) 26
  simp only [World.size_alloc] at rR
  have hc0 := (box1 (w.alloc (.cells #[.slice b.a1 B.n b.c1, .slice b.a2 B.D.n b.c2] 26)) (.int .i64 y) 3).blw (show Blw ((w.alloc (.cells #[.slice b.a1 B.n b.c1, .slice b.a2 B.D.n b.c2] 26)).alloc (.cells #[.int .i64 y] 3)) (((w.alloc (.cells #[.slice b.a1 B.n b.c1, .slice b.a2 B.D.n b.c2] 26)).alloc (.cells #[.int .i64 y] 3)).alloc (.cells #[.slice none 0 0, .slice none 0 0] 26)) from (Blw.refl _).alloc _)
  simp only [World.size_alloc] at hc0
  have hsz : (((w.alloc (.cells #[.slice b.a1 B.n b.c1, .slice b.a2 B.D.n b.c2] 26)).alloc (.cells #[.int .i64 y] 3)).alloc (.cells #[.slice none 0 0, .slice none 0 0] 26)).heap.size = w.heap.size + 1 + 1 + 1 := by simp
  clear h
  go_enter Try.func20, Try.ntmps20
  obtain ⟨p0, p1⟩ := get2 rA
  go_wp2_with fail
  clear p0 p1 rA
  revert hb0 HA rR hc0 hsz
  generalize (((w.alloc (.cells #[.slice b.a1 B.n b.c1, .slice b.a2 B.D.n b.c2] 26)).alloc (.cells #[.int .i64 y] 3)).alloc (.cells #[.slice none 0 0, .slice none 0 0] 26)) = w0
  intro hb0 HA rR hc0 hsz
  refine (changeProt_any b B a y (w.heap.size + 1) Y _ HA.out (fun x hx => by have := hY x hx; omega) hc0).mono ?_
  rintro e w1 ⟨b1, R, r, rfl, ho, hs, own, hb1⟩
  have hr := rR.blw hb1
  have hlt := hr.lt
  have FIN : Hid _ := pass_givesT (w := w) (W := w1) (z := w.heap.size + 1 + 1) (by omega) ho hs (hb0.trans hb1) own (fun x hx => ⟨by omega, by omega, hx.2⟩)
  obtain ⟨t0, t1⟩ := get2 hr
  have f0 := hr.frozen 0
  have f1 := hr.frozen 1
  clear HA rR hb0 hb1 own ho hs hr hsz hlt hc0
  go_wp2
  exact bodyPost_ret (v := .tuple #[b1.val R, .bool r]) (by simp [results, Try.results20, go_sem, t0, t1]) rfl FIN.out
end Go.Proofs.Ytcfdagmcnaepgaa
