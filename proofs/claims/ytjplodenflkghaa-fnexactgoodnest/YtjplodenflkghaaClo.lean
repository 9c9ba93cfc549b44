/- What a change makes of a leaf: the program's closures. -/
import Derived.Test.YtjplodenflkghaaPut
import Derived.Test.YtjplodenflkghaaMappedI
namespace Go.Proofs.Ytjplodenflkghaa
open Go.RowKit
set_option linter.unusedSimpArgs false
set_option linter.unusedVariables false
set_option maxRecDepth 10000 in
set_option maxHeartbeats 3200000 in
theorem mapFn_any (ox oy g y : Int) (b1 b2 : Nat) (w : World) (hb1 : Row w b1 1 (fun _ => .int .i64 g)) (hb2 : Row w b2 1 (fun _ => .int .i64 y)) :
    Calls Try.prog 204 #[.agg #[.int .i64 ox, .int .i64 oy], .pointer (some ⟨b1, 0, none⟩), .pointer (some ⟨b2, 0, none⟩)] w fun e w' => ∃ r, e = .returned (.tuple #[.agg #[.int .i64 g, .int .i64 y], .bool r]) ∧ (r = true ↔ oy = 0 ∧ pgOK g ∧ mayOK y) ∧ Blw w w' := by
  have hA1 : Blw w (w.alloc (.cells #[.int .i64 ox, .int .i64 oy] 144)) := (Blw.refl _).alloc _
  have hA2 : Blw (w.alloc (.cells #[.int .i64 ox, .int .i64 oy] 144)) ((w.alloc (.cells #[.int .i64 ox, .int .i64 oy] 144)).alloc (.cells #[.int .i64 0, .int .i64 0] 144)) := (Blw.refl _).alloc _
  have HB : Hid (Blw w ((w.alloc (.cells #[.int .i64 ox, .int .i64 oy] 144)).alloc (.cells #[.int .i64 0, .int .i64 0] 144))) := hA1.trans hA2
  have HL : Hid (Row ((w.alloc (.cells #[.int .i64 ox, .int .i64 oy] 144)).alloc (.cells #[.int .i64 0, .int .i64 0] 144)) w.heap.size 2 (fun i => if i = 0 then .int .i64 ox else .int .i64 oy)) := (box2 w _ _ 144).blw hA2
  have rR := box2 (w.alloc (.cells #[.int .i64 ox, .int .i64 oy] 144)) (.int .i64 0) (.int .i64 0) 144
  rw [World.size_alloc] at rR
  have HR : Hid (Row ((w.alloc (.cells #[.int .i64 ox, .int .i64 oy] 144)).alloc (.cells #[.int .i64 0, .int .i64 0] 144)) (w.heap.size + 1) 2 (fun i => if i = 0 then .int .i64 0 else .int .i64 0)) := rR
  have Hb1 : Hid (Row ((w.alloc (.cells #[.int .i64 ox, .int .i64 oy] 144)).alloc (.cells #[.int .i64 0, .int .i64 0] 144)) b1 1 (fun _ => .int .i64 g)) := hb1.blw (hA1.trans hA2)
  have lb1 := hb1.lt
  have Hb2 : Hid (Row ((w.alloc (.cells #[.int .i64 ox, .int .i64 oy] 144)).alloc (.cells #[.int .i64 0, .int .i64 0] 144)) b2 1 (fun _ => .int .i64 y)) := hb2.blw (hA1.trans hA2)
  have lb2 := hb2.lt
  clear hA1 hA2 rR hb1 hb2
  go_enter Try.func204, Try.ntmps204
  by_cases h0 : oy = 0
  case neg =>
    have d1 : (oy == 0) = false := by simp [h0]
    have HN : Hid (¬ (oy = 0 ∧ pgOK g ∧ mayOK y)) := fun q => h0 q.1
    clear h0
    go_upto_region 1 with fail
    generalize ((w.alloc (.cells #[.int .i64 ox, .int .i64 oy] 144)).alloc (.cells #[.int .i64 0, .int .i64 0] 144)) = W at *
    replace Hb1 : Hid (Row W.drew b1 1 (fun _ => .int .i64 g)) := Hb1.out.blw (Blw.refl _).drew
    replace Hb2 : Hid (Row W.drew b2 1 (fun _ => .int .i64 y)) := Hb2.out.blw (Blw.refl _).drew
    replace HL : Hid (Row W.drew w.heap.size 2 (fun i => if i = 0 then .int .i64 ox else .int .i64 oy)) := HL.out.blw (Blw.refl _).drew
    replace HR : Hid (Row W.drew (w.heap.size + 1) 2 (fun i => if i = 0 then .int .i64 0 else .int .i64 0)) := HR.out.blw (Blw.refl _).drew
    replace HB : Hid (Blw w W.drew) := HB.out.drew
    have Pb1 : ∀ w', (Row w' b1 1 (fun _ => .int .i64 g) ∧ Row w' b2 1 (fun _ => .int .i64 y) ∧ Row w' w.heap.size 2 (fun i => if i = 0 then .int .i64 ox else .int .i64 oy)) → w'.cell? ⟨b1, 0, none⟩ = some (.int .i64 g) := fun w' hh => (hh.1).cell (i := 0) (by omega)
    have Pb2 : ∀ w', (Row w' b1 1 (fun _ => .int .i64 g) ∧ Row w' b2 1 (fun _ => .int .i64 y) ∧ Row w' w.heap.size 2 (fun i => if i = 0 then .int .i64 ox else .int .i64 oy)) → w'.cell? ⟨b2, 0, none⟩ = some (.int .i64 y) := fun w' hh => (hh.2.1).cell (i := 0) (by omega)
    have PL0 : ∀ w', (Row w' b1 1 (fun _ => .int .i64 g) ∧ Row w' b2 1 (fun _ => .int .i64 y) ∧ Row w' w.heap.size 2 (fun i => if i = 0 then .int .i64 ox else .int .i64 oy)) → w'.cell? ⟨w.heap.size, 0, none⟩ = some (.int .i64 ox) := fun w' hh => (get2 hh.2.2).1
    have PL1 : ∀ w', (Row w' b1 1 (fun _ => .int .i64 g) ∧ Row w' b2 1 (fun _ => .int .i64 y) ∧ Row w' w.heap.size 2 (fun i => if i = 0 then .int .i64 ox else .int .i64 oy)) → w'.cell? ⟨w.heap.size, 1, none⟩ = some (.int .i64 oy) := fun w' hh => (get2 hh.2.2).2
    obtain ⟨t0, t1⟩ := get2 HR.out
    have f0 := HR.out.frozen 0
    have f1 := HR.out.frozen 1
    refine wp_region_noPanic ?_
    refine wp_region_held_drew (S := fun w' => Row w' b1 1 (fun _ => .int .i64 g) ∧ Row w' b2 1 (fun _ => .int .i64 y) ∧ Row w' w.heap.size 2 (fun i => if i = 0 then .int .i64 ox else .int .i64 oy)) (by kernel_rfl) ⟨Hb1.out, Hb2.out, HL.out⟩ (fun hB => ?_)
    clear hB
    generalize W.drew = wd at *
    refine wpAnyH_take (i := 0) (oi := { dst := some 6, op := Op.load 3 (Operand.tmp 1), type := 3, pos := _, after := #[], guard := none }) (v := (.int .i64 g)) rfl (by kernel_rfl) (by kernel_rfl) (by kernel_rfl) (fun _ _ _ h => h) (Or.inl ⟨by rfl, fun w' hS => by (try dsimp only at hS); go_simp⟩) ⟨Hb1.out, Hb2.out, HL.out⟩ ?_
    simp only [Act.put, List.setIfInBounds_toArray, List.set_cons_zero, List.set_cons_succ]
    refine wpAnyH_take (i := 1) (oi := { dst := some 7, op := Op.load 3 (Operand.tmp 2), type := 3, pos := _, after := #[], guard := none }) (v := (.int .i64 y)) rfl (by kernel_rfl) (by kernel_rfl) (by kernel_rfl) (fun _ _ _ h => h) (Or.inl ⟨by rfl, fun w' hS => by (try dsimp only at hS); go_simp⟩) ⟨Hb1.out, Hb2.out, HL.out⟩ ?_
    simp only [Act.put, List.setIfInBounds_toArray, List.set_cons_zero, List.set_cons_succ]
    refine wpAnyH_take (i := 3) (oi := { dst := some 9, op := Op.fieldAddr 144 (Operand.tmp 3) 1, type := 0, pos := _, after := #[], guard := none }) (v := (.pointer (some ⟨w.heap.size, 1, none⟩))) rfl (by kernel_rfl) (by kernel_rfl) (by kernel_rfl) (fun _ _ _ h => h) (Or.inl ⟨by rfl, fun w' hS => by (try dsimp only at hS); go_simp⟩) ⟨Hb1.out, Hb2.out, HL.out⟩ ?_
    simp only [Act.put, List.setIfInBounds_toArray, List.set_cons_zero, List.set_cons_succ]
    refine wpAnyH_take (i := 2) (oi := { dst := some 8, op := Op.build 144 #[(0, Operand.tmp 6), (1, Operand.tmp 7)], type := 144, pos := _, after := #[{ on := 0, ground := Ground.data }, { on := 1, ground := Ground.data }], guard := none }) (v := (.agg #[.int .i64 g, .int .i64 y])) rfl (by kernel_rfl) (by kernel_rfl) (by kernel_rfl) (fun _ _ _ h => h) (Or.inl ⟨by rfl, fun w' hS => by (try dsimp only at hS); go_simp⟩) ⟨Hb1.out, Hb2.out, HL.out⟩ ?_
    simp only [Act.put, List.setIfInBounds_toArray, List.set_cons_zero, List.set_cons_succ]
    refine wpAnyH_take (i := 4) (oi := { dst := some 10, op := Op.load 3 (Operand.tmp 9), type := 3, pos := _, after := #[{ on := 3, ground := Ground.data }], guard := none }) (v := (.int .i64 oy)) rfl (by kernel_rfl) (by kernel_rfl) (by kernel_rfl) (fun _ _ _ h => h) (Or.inl ⟨by rfl, fun w' hS => by (try dsimp only at hS); go_simp⟩) ⟨Hb1.out, Hb2.out, HL.out⟩ ?_
    simp only [Act.put, List.setIfInBounds_toArray, List.set_cons_zero, List.set_cons_succ]
    refine wpAnyH_take (i := 5) (oi := { dst := some 11, op := Op.binOp BinOp.eql 3 (Operand.tmp 10) (Operand.const (Value.int IntKind.i64 0)) 3, type := 4, pos := _, after := #[{ on := 4, ground := Ground.data }], guard := none }) (v := (.bool false)) rfl (by kernel_rfl) (by kernel_rfl) (by kernel_rfl) (fun _ _ _ h => h) (Or.inl ⟨by rfl, fun w' hS => by (try dsimp only at hS); go_simp⟩) ⟨Hb1.out, Hb2.out, HL.out⟩ ?_
    simp only [Act.put, List.setIfInBounds_toArray, List.set_cons_zero, List.set_cons_succ]
    refine wpAnyH_take (i := 6) (oi := { dst := some 12, op := Op.move (Operand.tmp 11), type := 4, pos := _, after := #[{ on := 5, ground := Ground.data }], guard := none }) (v := (.bool false)) rfl (by kernel_rfl) (by kernel_rfl) (by kernel_rfl) (fun _ _ _ h => h) (Or.inl ⟨by rfl, fun w' hS => by (try dsimp only at hS); go_simp⟩) ⟨Hb1.out, Hb2.out, HL.out⟩ ?_
    simp only [Act.put, List.setIfInBounds_toArray, List.set_cons_zero, List.set_cons_succ]
    refine wpAnyH_take (i := 7) (oi := { dst := some 13, op := Op.load 3 (Operand.tmp 1), type := 3, pos := _, after := #[{ on := 6, ground := Ground.guard }], guard := some (6, true) }) (v := undef) rfl (by kernel_rfl) (by kernel_rfl) (by kernel_rfl) (fun _ _ _ h => h) (Or.inr ⟨by rfl, rfl⟩) ⟨Hb1.out, Hb2.out, HL.out⟩ ?_
    simp only [Act.put, List.setIfInBounds_toArray, List.set_cons_zero, List.set_cons_succ]
    refine wpAnyH_take (i := 8) (oi := { dst := some 14, op := Op.call { callee := Callee.value (Operand.func 153), args := #[Operand.tmp 13], argTypes := #[3] }, type := 4, pos := _, after := #[{ on := 7, ground := Ground.data }, { on := 6, ground := Ground.chain }, { on := 6, ground := Ground.guard }], guard := some (6, true) }) (v := undef) rfl (by kernel_rfl) (by kernel_rfl) (by kernel_rfl) (fun _ _ _ h => h) (Or.inr ⟨by rfl, rfl⟩) ⟨Hb1.out, Hb2.out, HL.out⟩ ?_
    simp only [Act.put, List.setIfInBounds_toArray, List.set_cons_zero, List.set_cons_succ]
    refine wpAnyH_take (i := 9) (oi := { dst := some 15, op := Op.pick (Operand.tmp 12) (Operand.tmp 14) (Operand.const (Value.bool false)), type := 4, pos := _, after := #[{ on := 6, ground := Ground.data }, { on := 8, ground := Ground.data }], guard := none }) (v := (.bool false)) rfl (by kernel_rfl) (by kernel_rfl) (by kernel_rfl) (fun _ _ _ h => h) (Or.inl ⟨by rfl, fun w' hS => by (try dsimp only at hS); go_simp⟩) ⟨Hb1.out, Hb2.out, HL.out⟩ ?_
    simp only [Act.put, List.setIfInBounds_toArray, List.set_cons_zero, List.set_cons_succ]
    refine wpAnyH_take (i := 10) (oi := { dst := some 16, op := Op.move (Operand.tmp 15), type := 4, pos := _, after := #[{ on := 9, ground := Ground.data }, { on := 8, ground := Ground.chain }], guard := none }) (v := (.bool false)) rfl (by kernel_rfl) (by kernel_rfl) (by kernel_rfl) (fun _ _ _ h => h) (Or.inl ⟨by rfl, fun w' hS => by (try dsimp only at hS); go_simp⟩) ⟨Hb1.out, Hb2.out, HL.out⟩ ?_
    simp only [Act.put, List.setIfInBounds_toArray, List.set_cons_zero, List.set_cons_succ]
    refine wpAnyH_take (i := 11) (oi := { dst := some 17, op := Op.load 3 (Operand.tmp 2), type := 3, pos := _, after := #[{ on := 10, ground := Ground.guard }], guard := some (10, true) }) (v := undef) rfl (by kernel_rfl) (by kernel_rfl) (by kernel_rfl) (fun _ _ _ h => h) (Or.inr ⟨by rfl, rfl⟩) ⟨Hb1.out, Hb2.out, HL.out⟩ ?_
    simp only [Act.put, List.setIfInBounds_toArray, List.set_cons_zero, List.set_cons_succ]
    refine wpAnyH_take (i := 12) (oi := { dst := some 18, op := Op.call { callee := Callee.value (Operand.func 103), args := #[Operand.tmp 17], argTypes := #[3] }, type := 4, pos := _, after := #[{ on := 11, ground := Ground.data }, { on := 10, ground := Ground.chain }, { on := 10, ground := Ground.guard }], guard := some (10, true) }) (v := undef) rfl (by kernel_rfl) (by kernel_rfl) (by kernel_rfl) (fun _ _ _ h => h) (Or.inr ⟨by rfl, rfl⟩) ⟨Hb1.out, Hb2.out, HL.out⟩ ?_
    simp only [Act.put, List.setIfInBounds_toArray, List.set_cons_zero, List.set_cons_succ]
    refine wpAnyH_take (i := 13) (oi := { dst := some 19, op := Op.pick (Operand.tmp 16) (Operand.tmp 18) (Operand.const (Value.bool false)), type := 4, pos := _, after := #[{ on := 10, ground := Ground.data }, { on := 12, ground := Ground.data }, { on := 14, ground := Ground.gcOnly Departure.lateStores }], guard := none }) (v := (.bool false)) rfl (by kernel_rfl) (by kernel_rfl) (by kernel_rfl) (fun _ _ _ h => h) (Or.inl ⟨by rfl, fun w' hS => by (try dsimp only at hS); go_simp⟩) ⟨Hb1.out, Hb2.out, HL.out⟩ ?_
    simp only [Act.put, List.setIfInBounds_toArray, List.set_cons_zero, List.set_cons_succ]
    refine wpAnyH_ready (rs := [14]) (by kernel_rfl) (by simp) ?_
    refine AllReadyH.cons (o := { dst := none, op := Op.store 144 (Operand.tmp 4) (Operand.tmp 8), type := 0, pos := _, after := #[{ on := 2, ground := Ground.data }, { on := 12, ground := Ground.chain }, { on := 0, ground := Ground.phase }, { on := 1, ground := Ground.phase }, { on := 2, ground := Ground.phase }, { on := 3, ground := Ground.textOnly Departure.lateStores }, { on := 4, ground := Ground.textOnly Departure.lateStores }, { on := 5, ground := Ground.textOnly Departure.lateStores }, { on := 6, ground := Ground.textOnly Departure.lateStores }, { on := 7, ground := Ground.textOnly Departure.lateStores }, { on := 8, ground := Ground.textOnly Departure.lateStoresUnsure }, { on := 9, ground := Ground.textOnly Departure.lateStores }, { on := 10, ground := Ground.textOnly Departure.lateStores }, { on := 11, ground := Ground.textOnly Departure.lateStores }, { on := 12, ground := Ground.textOnly Departure.lateStoresUnsure }, { on := 13, ground := Ground.textOnly Departure.lateStores }], guard := none }) rfl (fun K hK => ?_) AllReadyH.nil
    go_simp
    have hSt := (And.intro ((Hb1.out.setOther (a := ⟨w.heap.size + 1, 0, none⟩) (by show b1 ≠ w.heap.size + 1; omega) (.int .i64 g)).setOther (a := ⟨w.heap.size + 1, 1, none⟩) (by show b1 ≠ w.heap.size + 1; omega) (.int .i64 y)) (And.intro ((Hb2.out.setOther (a := ⟨w.heap.size + 1, 0, none⟩) (by show b2 ≠ w.heap.size + 1; omega) (.int .i64 g)).setOther (a := ⟨w.heap.size + 1, 1, none⟩) (by show b2 ≠ w.heap.size + 1; omega) (.int .i64 y)) ((HL.out.setOther (a := ⟨w.heap.size + 1, 0, none⟩) (by show w.heap.size ≠ w.heap.size + 1; omega) (.int .i64 g)).setOther (a := ⟨w.heap.size + 1, 1, none⟩) (by show w.heap.size ≠ w.heap.size + 1; omega) (.int .i64 y))))
    refine hK.out _ _ hSt (fun hB => ?_)
    clear hK K hB
    try simp only [Act.put, List.setIfInBounds_toArray, List.set_cons_zero, List.set_cons_succ]
    refine wpAnyH_take (i := 15) (oi := { dst := some 5, op := Op.assign (Operand.tmp 19), type := 4, pos := _, after := #[{ on := 13, ground := Ground.data }, { on := 14, ground := Ground.chain }, { on := 0, ground := Ground.phase }, { on := 1, ground := Ground.phase }, { on := 2, ground := Ground.phase }, { on := 3, ground := Ground.phase }, { on := 4, ground := Ground.phase }, { on := 5, ground := Ground.phase }, { on := 6, ground := Ground.phase }, { on := 7, ground := Ground.phase }, { on := 8, ground := Ground.phase }, { on := 9, ground := Ground.phase }, { on := 10, ground := Ground.phase }, { on := 11, ground := Ground.phase }, { on := 12, ground := Ground.phase }, { on := 13, ground := Ground.phase }, { on := 14, ground := Ground.phase }], guard := none }) (v := (.bool false)) rfl (by kernel_rfl) (by kernel_rfl) (by kernel_rfl) (fun _ _ _ h => h) (Or.inl ⟨by rfl, fun w' hS => by (try dsimp only at hS); go_simp⟩) hSt ?_
    simp only [Act.put, List.setIfInBounds_toArray, List.set_cons_zero, List.set_cons_succ]
    refine wpAnyH_done (by kernel_rfl) ?_ _
    refine NoPanic.normal ?_
    have HBF : Hid _ := set2_blw HB.out (B := w.heap.size + 1) (by omega) (.int .i64 g) (.int .i64 y)
    clear hSt HL HR HB PL0 PL1 Hb1 Pb1 Hb2 Pb2
    go_wp2
    exact bodyPost_ret (v := .tuple #[.agg #[.int .i64 g, .int .i64 y], .bool false]) (by simp [results, Try.results204, go_sem, t0, t1]) rfl ⟨false, rfl, iff_f HN.out, HBF.out⟩
  have d1 : (oy == 0) = true := by simp [h0]
  have H0 : Hid (oy = 0) := h0
  clear h0
  by_cases hp : pgOK g
  case neg =>
    have HP : Hid (¬ pgOK g) := hp
    have HN : Hid (¬ (oy = 0 ∧ pgOK g ∧ mayOK y)) := fun q => hp q.2.1
    clear hp
    go_upto_region 1 with fail
    generalize ((w.alloc (.cells #[.int .i64 ox, .int .i64 oy] 144)).alloc (.cells #[.int .i64 0, .int .i64 0] 144)) = W at *
    replace Hb1 : Hid (Row W.drew b1 1 (fun _ => .int .i64 g)) := Hb1.out.blw (Blw.refl _).drew
    replace Hb2 : Hid (Row W.drew b2 1 (fun _ => .int .i64 y)) := Hb2.out.blw (Blw.refl _).drew
    replace HL : Hid (Row W.drew w.heap.size 2 (fun i => if i = 0 then .int .i64 ox else .int .i64 oy)) := HL.out.blw (Blw.refl _).drew
    replace HR : Hid (Row W.drew (w.heap.size + 1) 2 (fun i => if i = 0 then .int .i64 0 else .int .i64 0)) := HR.out.blw (Blw.refl _).drew
    replace HB : Hid (Blw w W.drew) := HB.out.drew
    have Pb1 : ∀ w', (Row w' b1 1 (fun _ => .int .i64 g) ∧ Row w' b2 1 (fun _ => .int .i64 y) ∧ Row w' w.heap.size 2 (fun i => if i = 0 then .int .i64 ox else .int .i64 oy)) → w'.cell? ⟨b1, 0, none⟩ = some (.int .i64 g) := fun w' hh => (hh.1).cell (i := 0) (by omega)
    have Pb2 : ∀ w', (Row w' b1 1 (fun _ => .int .i64 g) ∧ Row w' b2 1 (fun _ => .int .i64 y) ∧ Row w' w.heap.size 2 (fun i => if i = 0 then .int .i64 ox else .int .i64 oy)) → w'.cell? ⟨b2, 0, none⟩ = some (.int .i64 y) := fun w' hh => (hh.2.1).cell (i := 0) (by omega)
    have PL0 : ∀ w', (Row w' b1 1 (fun _ => .int .i64 g) ∧ Row w' b2 1 (fun _ => .int .i64 y) ∧ Row w' w.heap.size 2 (fun i => if i = 0 then .int .i64 ox else .int .i64 oy)) → w'.cell? ⟨w.heap.size, 0, none⟩ = some (.int .i64 ox) := fun w' hh => (get2 hh.2.2).1
    have PL1 : ∀ w', (Row w' b1 1 (fun _ => .int .i64 g) ∧ Row w' b2 1 (fun _ => .int .i64 y) ∧ Row w' w.heap.size 2 (fun i => if i = 0 then .int .i64 ox else .int .i64 oy)) → w'.cell? ⟨w.heap.size, 1, none⟩ = some (.int .i64 oy) := fun w' hh => (get2 hh.2.2).2
    obtain ⟨t0, t1⟩ := get2 HR.out
    have f0 := HR.out.frozen 0
    have f1 := HR.out.frozen 1
    refine wp_region_noPanic ?_
    refine wp_region_held_drew (S := fun w' => Row w' b1 1 (fun _ => .int .i64 g) ∧ Row w' b2 1 (fun _ => .int .i64 y) ∧ Row w' w.heap.size 2 (fun i => if i = 0 then .int .i64 ox else .int .i64 oy)) (by kernel_rfl) ⟨Hb1.out, Hb2.out, HL.out⟩ (fun hB => ?_)
    clear hB
    generalize W.drew = wd at *
    refine wpAnyH_take (i := 0) (oi := { dst := some 6, op := Op.load 3 (Operand.tmp 1), type := 3, pos := _, after := #[], guard := none }) (v := (.int .i64 g)) rfl (by kernel_rfl) (by kernel_rfl) (by kernel_rfl) (fun _ _ _ h => h) (Or.inl ⟨by rfl, fun w' hS => by (try dsimp only at hS); go_simp⟩) ⟨Hb1.out, Hb2.out, HL.out⟩ ?_
    simp only [Act.put, List.setIfInBounds_toArray, List.set_cons_zero, List.set_cons_succ]
    refine wpAnyH_take (i := 1) (oi := { dst := some 7, op := Op.load 3 (Operand.tmp 2), type := 3, pos := _, after := #[], guard := none }) (v := (.int .i64 y)) rfl (by kernel_rfl) (by kernel_rfl) (by kernel_rfl) (fun _ _ _ h => h) (Or.inl ⟨by rfl, fun w' hS => by (try dsimp only at hS); go_simp⟩) ⟨Hb1.out, Hb2.out, HL.out⟩ ?_
    simp only [Act.put, List.setIfInBounds_toArray, List.set_cons_zero, List.set_cons_succ]
    refine wpAnyH_take (i := 3) (oi := { dst := some 9, op := Op.fieldAddr 144 (Operand.tmp 3) 1, type := 0, pos := _, after := #[], guard := none }) (v := (.pointer (some ⟨w.heap.size, 1, none⟩))) rfl (by kernel_rfl) (by kernel_rfl) (by kernel_rfl) (fun _ _ _ h => h) (Or.inl ⟨by rfl, fun w' hS => by (try dsimp only at hS); go_simp⟩) ⟨Hb1.out, Hb2.out, HL.out⟩ ?_
    simp only [Act.put, List.setIfInBounds_toArray, List.set_cons_zero, List.set_cons_succ]
    refine wpAnyH_take (i := 2) (oi := { dst := some 8, op := Op.build 144 #[(0, Operand.tmp 6), (1, Operand.tmp 7)], type := 144, pos := _, after := #[{ on := 0, ground := Ground.data }, { on := 1, ground := Ground.data }], guard := none }) (v := (.agg #[.int .i64 g, .int .i64 y])) rfl (by kernel_rfl) (by kernel_rfl) (by kernel_rfl) (fun _ _ _ h => h) (Or.inl ⟨by rfl, fun w' hS => by (try dsimp only at hS); go_simp⟩) ⟨Hb1.out, Hb2.out, HL.out⟩ ?_
    simp only [Act.put, List.setIfInBounds_toArray, List.set_cons_zero, List.set_cons_succ]
    refine wpAnyH_take (i := 4) (oi := { dst := some 10, op := Op.load 3 (Operand.tmp 9), type := 3, pos := _, after := #[{ on := 3, ground := Ground.data }], guard := none }) (v := (.int .i64 oy)) rfl (by kernel_rfl) (by kernel_rfl) (by kernel_rfl) (fun _ _ _ h => h) (Or.inl ⟨by rfl, fun w' hS => by (try dsimp only at hS); go_simp⟩) ⟨Hb1.out, Hb2.out, HL.out⟩ ?_
    simp only [Act.put, List.setIfInBounds_toArray, List.set_cons_zero, List.set_cons_succ]
    refine wpAnyH_take (i := 5) (oi := { dst := some 11, op := Op.binOp BinOp.eql 3 (Operand.tmp 10) (Operand.const (Value.int IntKind.i64 0)) 3, type := 4, pos := _, after := #[{ on := 4, ground := Ground.data }], guard := none }) (v := (.bool true)) rfl (by kernel_rfl) (by kernel_rfl) (by kernel_rfl) (fun _ _ _ h => h) (Or.inl ⟨by rfl, fun w' hS => by (try dsimp only at hS); go_simp⟩) ⟨Hb1.out, Hb2.out, HL.out⟩ ?_
    simp only [Act.put, List.setIfInBounds_toArray, List.set_cons_zero, List.set_cons_succ]
    refine wpAnyH_take (i := 6) (oi := { dst := some 12, op := Op.move (Operand.tmp 11), type := 4, pos := _, after := #[{ on := 5, ground := Ground.data }], guard := none }) (v := (.bool true)) rfl (by kernel_rfl) (by kernel_rfl) (by kernel_rfl) (fun _ _ _ h => h) (Or.inl ⟨by rfl, fun w' hS => by (try dsimp only at hS); go_simp⟩) ⟨Hb1.out, Hb2.out, HL.out⟩ ?_
    simp only [Act.put, List.setIfInBounds_toArray, List.set_cons_zero, List.set_cons_succ]
    refine wpAnyH_take (i := 7) (oi := { dst := some 13, op := Op.load 3 (Operand.tmp 1), type := 3, pos := _, after := #[{ on := 6, ground := Ground.guard }], guard := some (6, true) }) (v := (.int .i64 g)) rfl (by kernel_rfl) (by kernel_rfl) (by kernel_rfl) (fun _ _ _ h => h) (Or.inl ⟨by rfl, fun w' hS => by (try dsimp only at hS); go_simp⟩) ⟨Hb1.out, Hb2.out, HL.out⟩ ?_
    simp only [Act.put, List.setIfInBounds_toArray, List.set_cons_zero, List.set_cons_succ]
    refine wpAnyH_ready (rs := [8]) (by kernel_rfl) (by simp) ?_
    refine AllReadyH.cons (o := { dst := some 14, op := Op.call { callee := Callee.value (Operand.func 153), args := #[Operand.tmp 13], argTypes := #[3] }, type := 4, pos := _, after := #[{ on := 7, ground := Ground.data }, { on := 6, ground := Ground.chain }, { on := 6, ground := Ground.guard }], guard := some (6, true) }) rfl (fun K hK => ?_) AllReadyH.nil
    go_simp
    refine (isPage_no g _ HP.out).mono ?_
    rintro e w1 ⟨rfl, rfl⟩
    refine hK.out _ _ ⟨Hb1.out, Hb2.out, HL.out⟩ (fun hB => ?_)
    clear hK K hB
    try simp only [Act.put, List.setIfInBounds_toArray, List.set_cons_zero, List.set_cons_succ]
    refine wpAnyH_take (i := 9) (oi := { dst := some 15, op := Op.pick (Operand.tmp 12) (Operand.tmp 14) (Operand.const (Value.bool false)), type := 4, pos := _, after := #[{ on := 6, ground := Ground.data }, { on := 8, ground := Ground.data }], guard := none }) (v := (.bool false)) rfl (by kernel_rfl) (by kernel_rfl) (by kernel_rfl) (fun _ _ _ h => h) (Or.inl ⟨by rfl, fun w' hS => by (try dsimp only at hS); go_simp⟩) ⟨Hb1.out, Hb2.out, HL.out⟩ ?_
    simp only [Act.put, List.setIfInBounds_toArray, List.set_cons_zero, List.set_cons_succ]
    refine wpAnyH_take (i := 10) (oi := { dst := some 16, op := Op.move (Operand.tmp 15), type := 4, pos := _, after := #[{ on := 9, ground := Ground.data }, { on := 8, ground := Ground.chain }], guard := none }) (v := (.bool false)) rfl (by kernel_rfl) (by kernel_rfl) (by kernel_rfl) (fun _ _ _ h => h) (Or.inl ⟨by rfl, fun w' hS => by (try dsimp only at hS); go_simp⟩) ⟨Hb1.out, Hb2.out, HL.out⟩ ?_
    simp only [Act.put, List.setIfInBounds_toArray, List.set_cons_zero, List.set_cons_succ]
    refine wpAnyH_take (i := 11) (oi := { dst := some 17, op := Op.load 3 (Operand.tmp 2), type := 3, pos := _, after := #[{ on := 10, ground := Ground.guard }], guard := some (10, true) }) (v := undef) rfl (by kernel_rfl) (by kernel_rfl) (by kernel_rfl) (fun _ _ _ h => h) (Or.inr ⟨by rfl, rfl⟩) ⟨Hb1.out, Hb2.out, HL.out⟩ ?_
    simp only [Act.put, List.setIfInBounds_toArray, List.set_cons_zero, List.set_cons_succ]
    refine wpAnyH_take (i := 12) (oi := { dst := some 18, op := Op.call { callee := Callee.value (Operand.func 103), args := #[Operand.tmp 17], argTypes := #[3] }, type := 4, pos := _, after := #[{ on := 11, ground := Ground.data }, { on := 10, ground := Ground.chain }, { on := 10, ground := Ground.guard }], guard := some (10, true) }) (v := undef) rfl (by kernel_rfl) (by kernel_rfl) (by kernel_rfl) (fun _ _ _ h => h) (Or.inr ⟨by rfl, rfl⟩) ⟨Hb1.out, Hb2.out, HL.out⟩ ?_
    simp only [Act.put, List.setIfInBounds_toArray, List.set_cons_zero, List.set_cons_succ]
    refine wpAnyH_take (i := 13) (oi := { dst := some 19, op := Op.pick (Operand.tmp 16) (Operand.tmp 18) (Operand.const (Value.bool false)), type := 4, pos := _, after := #[{ on := 10, ground := Ground.data }, { on := 12, ground := Ground.data }, { on := 14, ground := Ground.gcOnly Departure.lateStores }], guard := none }) (v := (.bool false)) rfl (by kernel_rfl) (by kernel_rfl) (by kernel_rfl) (fun _ _ _ h => h) (Or.inl ⟨by rfl, fun w' hS => by (try dsimp only at hS); go_simp⟩) ⟨Hb1.out, Hb2.out, HL.out⟩ ?_
    simp only [Act.put, List.setIfInBounds_toArray, List.set_cons_zero, List.set_cons_succ]
    refine wpAnyH_ready (rs := [14]) (by kernel_rfl) (by simp) ?_
    refine AllReadyH.cons (o := { dst := none, op := Op.store 144 (Operand.tmp 4) (Operand.tmp 8), type := 0, pos := _, after := #[{ on := 2, ground := Ground.data }, { on := 12, ground := Ground.chain }, { on := 0, ground := Ground.phase }, { on := 1, ground := Ground.phase }, { on := 2, ground := Ground.phase }, { on := 3, ground := Ground.textOnly Departure.lateStores }, { on := 4, ground := Ground.textOnly Departure.lateStores }, { on := 5, ground := Ground.textOnly Departure.lateStores }, { on := 6, ground := Ground.textOnly Departure.lateStores }, { on := 7, ground := Ground.textOnly Departure.lateStores }, { on := 8, ground := Ground.textOnly Departure.lateStoresUnsure }, { on := 9, ground := Ground.textOnly Departure.lateStores }, { on := 10, ground := Ground.textOnly Departure.lateStores }, { on := 11, ground := Ground.textOnly Departure.lateStores }, { on := 12, ground := Ground.textOnly Departure.lateStoresUnsure }, { on := 13, ground := Ground.textOnly Departure.lateStores }], guard := none }) rfl (fun K hK => ?_) AllReadyH.nil
    go_simp
    have hSt := (And.intro ((Hb1.out.setOther (a := ⟨w.heap.size + 1, 0, none⟩) (by show b1 ≠ w.heap.size + 1; omega) (.int .i64 g)).setOther (a := ⟨w.heap.size + 1, 1, none⟩) (by show b1 ≠ w.heap.size + 1; omega) (.int .i64 y)) (And.intro ((Hb2.out.setOther (a := ⟨w.heap.size + 1, 0, none⟩) (by show b2 ≠ w.heap.size + 1; omega) (.int .i64 g)).setOther (a := ⟨w.heap.size + 1, 1, none⟩) (by show b2 ≠ w.heap.size + 1; omega) (.int .i64 y)) ((HL.out.setOther (a := ⟨w.heap.size + 1, 0, none⟩) (by show w.heap.size ≠ w.heap.size + 1; omega) (.int .i64 g)).setOther (a := ⟨w.heap.size + 1, 1, none⟩) (by show w.heap.size ≠ w.heap.size + 1; omega) (.int .i64 y))))
    refine hK.out _ _ hSt (fun hB => ?_)
    clear hK K hB
    try simp only [Act.put, List.setIfInBounds_toArray, List.set_cons_zero, List.set_cons_succ]
    refine wpAnyH_take (i := 15) (oi := { dst := some 5, op := Op.assign (Operand.tmp 19), type := 4, pos := _, after := #[{ on := 13, ground := Ground.data }, { on := 14, ground := Ground.chain }, { on := 0, ground := Ground.phase }, { on := 1, ground := Ground.phase }, { on := 2, ground := Ground.phase }, { on := 3, ground := Ground.phase }, { on := 4, ground := Ground.phase }, { on := 5, ground := Ground.phase }, { on := 6, ground := Ground.phase }, { on := 7, ground := Ground.phase }, { on := 8, ground := Ground.phase }, { on := 9, ground := Ground.phase }, { on := 10, ground := Ground.phase }, { on := 11, ground := Ground.phase }, { on := 12, ground := Ground.phase }, { on := 13, ground := Ground.phase }, { on := 14, ground := Ground.phase }], guard := none }) (v := (.bool false)) rfl (by kernel_rfl) (by kernel_rfl) (by kernel_rfl) (fun _ _ _ h => h) (Or.inl ⟨by rfl, fun w' hS => by (try dsimp only at hS); go_simp⟩) hSt ?_
    simp only [Act.put, List.setIfInBounds_toArray, List.set_cons_zero, List.set_cons_succ]
    refine wpAnyH_done (by kernel_rfl) ?_ _
    refine NoPanic.normal ?_
    have HBF : Hid _ := set2_blw HB.out (B := w.heap.size + 1) (by omega) (.int .i64 g) (.int .i64 y)
    clear hSt HL HR HB PL0 PL1 Hb1 Pb1 Hb2 Pb2
    go_wp2
    exact bodyPost_ret (v := .tuple #[.agg #[.int .i64 g, .int .i64 y], .bool false]) (by simp [results, Try.results204, go_sem, t0, t1]) rfl ⟨false, rfl, iff_f HN.out, HBF.out⟩
  have HP : Hid (pgOK g) := hp
  clear hp
  go_upto_region 1 with fail
  generalize ((w.alloc (.cells #[.int .i64 ox, .int .i64 oy] 144)).alloc (.cells #[.int .i64 0, .int .i64 0] 144)) = W at *
  replace Hb1 : Hid (Row W.drew b1 1 (fun _ => .int .i64 g)) := Hb1.out.blw (Blw.refl _).drew
  replace Hb2 : Hid (Row W.drew b2 1 (fun _ => .int .i64 y)) := Hb2.out.blw (Blw.refl _).drew
  replace HL : Hid (Row W.drew w.heap.size 2 (fun i => if i = 0 then .int .i64 ox else .int .i64 oy)) := HL.out.blw (Blw.refl _).drew
  replace HR : Hid (Row W.drew (w.heap.size + 1) 2 (fun i => if i = 0 then .int .i64 0 else .int .i64 0)) := HR.out.blw (Blw.refl _).drew
  replace HB : Hid (Blw w W.drew) := HB.out.drew
  have Pb1 : ∀ w', (Row w' b1 1 (fun _ => .int .i64 g) ∧ Row w' b2 1 (fun _ => .int .i64 y) ∧ Row w' w.heap.size 2 (fun i => if i = 0 then .int .i64 ox else .int .i64 oy)) → w'.cell? ⟨b1, 0, none⟩ = some (.int .i64 g) := fun w' hh => (hh.1).cell (i := 0) (by omega)
  have Pb2 : ∀ w', (Row w' b1 1 (fun _ => .int .i64 g) ∧ Row w' b2 1 (fun _ => .int .i64 y) ∧ Row w' w.heap.size 2 (fun i => if i = 0 then .int .i64 ox else .int .i64 oy)) → w'.cell? ⟨b2, 0, none⟩ = some (.int .i64 y) := fun w' hh => (hh.2.1).cell (i := 0) (by omega)
  have PL0 : ∀ w', (Row w' b1 1 (fun _ => .int .i64 g) ∧ Row w' b2 1 (fun _ => .int .i64 y) ∧ Row w' w.heap.size 2 (fun i => if i = 0 then .int .i64 ox else .int .i64 oy)) → w'.cell? ⟨w.heap.size, 0, none⟩ = some (.int .i64 ox) := fun w' hh => (get2 hh.2.2).1
  have PL1 : ∀ w', (Row w' b1 1 (fun _ => .int .i64 g) ∧ Row w' b2 1 (fun _ => .int .i64 y) ∧ Row w' w.heap.size 2 (fun i => if i = 0 then .int .i64 ox else .int .i64 oy)) → w'.cell? ⟨w.heap.size, 1, none⟩ = some (.int .i64 oy) := fun w' hh => (get2 hh.2.2).2
  obtain ⟨t0, t1⟩ := get2 HR.out
  have f0 := HR.out.frozen 0
  have f1 := HR.out.frozen 1
  refine wp_region_noPanic ?_
  refine wp_region_held_drew (S := fun w' => Row w' b1 1 (fun _ => .int .i64 g) ∧ Row w' b2 1 (fun _ => .int .i64 y) ∧ Row w' w.heap.size 2 (fun i => if i = 0 then .int .i64 ox else .int .i64 oy)) (by kernel_rfl) ⟨Hb1.out, Hb2.out, HL.out⟩ (fun hB => ?_)
  clear hB
  generalize W.drew = wd at *
  refine wpAnyH_take (i := 0) (oi := { dst := some 6, op := Op.load 3 (Operand.tmp 1), type := 3, pos := _, after := #[], guard := none }) (v := (.int .i64 g)) rfl (by kernel_rfl) (by kernel_rfl) (by kernel_rfl) (fun _ _ _ h => h) (Or.inl ⟨by rfl, fun w' hS => by (try dsimp only at hS); go_simp⟩) ⟨Hb1.out, Hb2.out, HL.out⟩ ?_
  simp only [Act.put, List.setIfInBounds_toArray, List.set_cons_zero, List.set_cons_succ]
  refine wpAnyH_take (i := 1) (oi := { dst := some 7, op := Op.load 3 (Operand.tmp 2), type := 3, pos := _, after := #[], guard := none }) (v := (.int .i64 y)) rfl (by kernel_rfl) (by kernel_rfl) (by kernel_rfl) (fun _ _ _ h => h) (Or.inl ⟨by rfl, fun w' hS => by (try dsimp only at hS); go_simp⟩) ⟨Hb1.out, Hb2.out, HL.out⟩ ?_
  simp only [Act.put, List.setIfInBounds_toArray, List.set_cons_zero, List.set_cons_succ]
  refine wpAnyH_take (i := 3) (oi := { dst := some 9, op := Op.fieldAddr 144 (Operand.tmp 3) 1, type := 0, pos := _, after := #[], guard := none }) (v := (.pointer (some ⟨w.heap.size, 1, none⟩))) rfl (by kernel_rfl) (by kernel_rfl) (by kernel_rfl) (fun _ _ _ h => h) (Or.inl ⟨by rfl, fun w' hS => by (try dsimp only at hS); go_simp⟩) ⟨Hb1.out, Hb2.out, HL.out⟩ ?_
  simp only [Act.put, List.setIfInBounds_toArray, List.set_cons_zero, List.set_cons_succ]
  refine wpAnyH_take (i := 2) (oi := { dst := some 8, op := Op.build 144 #[(0, Operand.tmp 6), (1, Operand.tmp 7)], type := 144, pos := _, after := #[{ on := 0, ground := Ground.data }, { on := 1, ground := Ground.data }], guard := none }) (v := (.agg #[.int .i64 g, .int .i64 y])) rfl (by kernel_rfl) (by kernel_rfl) (by kernel_rfl) (fun _ _ _ h => h) (Or.inl ⟨by rfl, fun w' hS => by (try dsimp only at hS); go_simp⟩) ⟨Hb1.out, Hb2.out, HL.out⟩ ?_
  simp only [Act.put, List.setIfInBounds_toArray, List.set_cons_zero, List.set_cons_succ]
  refine wpAnyH_take (i := 4) (oi := { dst := some 10, op := Op.load 3 (Operand.tmp 9), type := 3, pos := _, after := #[{ on := 3, ground := Ground.data }], guard := none }) (v := (.int .i64 oy)) rfl (by kernel_rfl) (by kernel_rfl) (by kernel_rfl) (fun _ _ _ h => h) (Or.inl ⟨by rfl, fun w' hS => by (try dsimp only at hS); go_simp⟩) ⟨Hb1.out, Hb2.out, HL.out⟩ ?_
  simp only [Act.put, List.setIfInBounds_toArray, List.set_cons_zero, List.set_cons_succ]
  refine wpAnyH_take (i := 5) (oi := { dst := some 11, op := Op.binOp BinOp.eql 3 (Operand.tmp 10) (Operand.const (Value.int IntKind.i64 0)) 3, type := 4, pos := _, after := #[{ on := 4, ground := Ground.data }], guard := none }) (v := (.bool true)) rfl (by kernel_rfl) (by kernel_rfl) (by kernel_rfl) (fun _ _ _ h => h) (Or.inl ⟨by rfl, fun w' hS => by (try dsimp only at hS); go_simp⟩) ⟨Hb1.out, Hb2.out, HL.out⟩ ?_
  simp only [Act.put, List.setIfInBounds_toArray, List.set_cons_zero, List.set_cons_succ]
  refine wpAnyH_take (i := 6) (oi := { dst := some 12, op := Op.move (Operand.tmp 11), type := 4, pos := _, after := #[{ on := 5, ground := Ground.data }], guard := none }) (v := (.bool true)) rfl (by kernel_rfl) (by kernel_rfl) (by kernel_rfl) (fun _ _ _ h => h) (Or.inl ⟨by rfl, fun w' hS => by (try dsimp only at hS); go_simp⟩) ⟨Hb1.out, Hb2.out, HL.out⟩ ?_
  simp only [Act.put, List.setIfInBounds_toArray, List.set_cons_zero, List.set_cons_succ]
  refine wpAnyH_take (i := 7) (oi := { dst := some 13, op := Op.load 3 (Operand.tmp 1), type := 3, pos := _, after := #[{ on := 6, ground := Ground.guard }], guard := some (6, true) }) (v := (.int .i64 g)) rfl (by kernel_rfl) (by kernel_rfl) (by kernel_rfl) (fun _ _ _ h => h) (Or.inl ⟨by rfl, fun w' hS => by (try dsimp only at hS); go_simp⟩) ⟨Hb1.out, Hb2.out, HL.out⟩ ?_
  simp only [Act.put, List.setIfInBounds_toArray, List.set_cons_zero, List.set_cons_succ]
  refine wpAnyH_ready (rs := [8]) (by kernel_rfl) (by simp) ?_
  refine AllReadyH.cons (o := { dst := some 14, op := Op.call { callee := Callee.value (Operand.func 153), args := #[Operand.tmp 13], argTypes := #[3] }, type := 4, pos := _, after := #[{ on := 7, ground := Ground.data }, { on := 6, ground := Ground.chain }, { on := 6, ground := Ground.guard }], guard := some (6, true) }) rfl (fun K hK => ?_) AllReadyH.nil
  go_simp
  refine (isPage_yes g _ HP.out).mono ?_
  rintro e w1 ⟨rfl, rfl⟩
  refine hK.out _ _ ⟨Hb1.out, Hb2.out, HL.out⟩ (fun hB => ?_)
  clear hK K hB
  try simp only [Act.put, List.setIfInBounds_toArray, List.set_cons_zero, List.set_cons_succ]
  refine wpAnyH_take (i := 9) (oi := { dst := some 15, op := Op.pick (Operand.tmp 12) (Operand.tmp 14) (Operand.const (Value.bool false)), type := 4, pos := _, after := #[{ on := 6, ground := Ground.data }, { on := 8, ground := Ground.data }], guard := none }) (v := (.bool true)) rfl (by kernel_rfl) (by kernel_rfl) (by kernel_rfl) (fun _ _ _ h => h) (Or.inl ⟨by rfl, fun w' hS => by (try dsimp only at hS); go_simp⟩) ⟨Hb1.out, Hb2.out, HL.out⟩ ?_
  simp only [Act.put, List.setIfInBounds_toArray, List.set_cons_zero, List.set_cons_succ]
  refine wpAnyH_take (i := 10) (oi := { dst := some 16, op := Op.move (Operand.tmp 15), type := 4, pos := _, after := #[{ on := 9, ground := Ground.data }, { on := 8, ground := Ground.chain }], guard := none }) (v := (.bool true)) rfl (by kernel_rfl) (by kernel_rfl) (by kernel_rfl) (fun _ _ _ h => h) (Or.inl ⟨by rfl, fun w' hS => by (try dsimp only at hS); go_simp⟩) ⟨Hb1.out, Hb2.out, HL.out⟩ ?_
  simp only [Act.put, List.setIfInBounds_toArray, List.set_cons_zero, List.set_cons_succ]
  refine wpAnyH_take (i := 11) (oi := { dst := some 17, op := Op.load 3 (Operand.tmp 2), type := 3, pos := _, after := #[{ on := 10, ground := Ground.guard }], guard := some (10, true) }) (v := (.int .i64 y)) rfl (by kernel_rfl) (by kernel_rfl) (by kernel_rfl) (fun _ _ _ h => h) (Or.inl ⟨by rfl, fun w' hS => by (try dsimp only at hS); go_simp⟩) ⟨Hb1.out, Hb2.out, HL.out⟩ ?_
  simp only [Act.put, List.setIfInBounds_toArray, List.set_cons_zero, List.set_cons_succ]
  refine wpAnyH_ready (rs := [12]) (by kernel_rfl) (by simp) ?_
  refine AllReadyH.cons (o := { dst := some 18, op := Op.call { callee := Callee.value (Operand.func 103), args := #[Operand.tmp 17], argTypes := #[3] }, type := 4, pos := _, after := #[{ on := 11, ground := Ground.data }, { on := 10, ground := Ground.chain }, { on := 10, ground := Ground.guard }], guard := some (10, true) }) rfl (fun K hK => ?_) AllReadyH.nil
  go_simp
  refine (isMay_any y _).mono ?_
  rintro e w1 ⟨r, rfl, hr, rfl⟩
  have HR2 : Hid (r = true ↔ (oy = 0 ∧ pgOK g ∧ mayOK y)) := hr.trans ⟨fun q => ⟨H0.out, HP.out, q⟩, fun q => q.2.2⟩
  clear hr
  refine hK.out _ _ ⟨Hb1.out, Hb2.out, HL.out⟩ (fun hB => ?_)
  clear hK K hB
  try simp only [Act.put, List.setIfInBounds_toArray, List.set_cons_zero, List.set_cons_succ]
  refine wpAnyH_take (i := 13) (oi := { dst := some 19, op := Op.pick (Operand.tmp 16) (Operand.tmp 18) (Operand.const (Value.bool false)), type := 4, pos := _, after := #[{ on := 10, ground := Ground.data }, { on := 12, ground := Ground.data }, { on := 14, ground := Ground.gcOnly Departure.lateStores }], guard := none }) (v := (.bool r)) rfl (by kernel_rfl) (by kernel_rfl) (by kernel_rfl) (fun _ _ _ h => h) (Or.inl ⟨by rfl, fun w' hS => by (try dsimp only at hS); go_simp⟩) ⟨Hb1.out, Hb2.out, HL.out⟩ ?_
  simp only [Act.put, List.setIfInBounds_toArray, List.set_cons_zero, List.set_cons_succ]
  refine wpAnyH_ready (rs := [14]) (by kernel_rfl) (by simp) ?_
  refine AllReadyH.cons (o := { dst := none, op := Op.store 144 (Operand.tmp 4) (Operand.tmp 8), type := 0, pos := _, after := #[{ on := 2, ground := Ground.data }, { on := 12, ground := Ground.chain }, { on := 0, ground := Ground.phase }, { on := 1, ground := Ground.phase }, { on := 2, ground := Ground.phase }, { on := 3, ground := Ground.textOnly Departure.lateStores }, { on := 4, ground := Ground.textOnly Departure.lateStores }, { on := 5, ground := Ground.textOnly Departure.lateStores }, { on := 6, ground := Ground.textOnly Departure.lateStores }, { on := 7, ground := Ground.textOnly Departure.lateStores }, { on := 8, ground := Ground.textOnly Departure.lateStoresUnsure }, { on := 9, ground := Ground.textOnly Departure.lateStores }, { on := 10, ground := Ground.textOnly Departure.lateStores }, { on := 11, ground := Ground.textOnly Departure.lateStores }, { on := 12, ground := Ground.textOnly Departure.lateStoresUnsure }, { on := 13, ground := Ground.textOnly Departure.lateStores }], guard := none }) rfl (fun K hK => ?_) AllReadyH.nil
  go_simp
  have hSt := (And.intro ((Hb1.out.setOther (a := ⟨w.heap.size + 1, 0, none⟩) (by show b1 ≠ w.heap.size + 1; omega) (.int .i64 g)).setOther (a := ⟨w.heap.size + 1, 1, none⟩) (by show b1 ≠ w.heap.size + 1; omega) (.int .i64 y)) (And.intro ((Hb2.out.setOther (a := ⟨w.heap.size + 1, 0, none⟩) (by show b2 ≠ w.heap.size + 1; omega) (.int .i64 g)).setOther (a := ⟨w.heap.size + 1, 1, none⟩) (by show b2 ≠ w.heap.size + 1; omega) (.int .i64 y)) ((HL.out.setOther (a := ⟨w.heap.size + 1, 0, none⟩) (by show w.heap.size ≠ w.heap.size + 1; omega) (.int .i64 g)).setOther (a := ⟨w.heap.size + 1, 1, none⟩) (by show w.heap.size ≠ w.heap.size + 1; omega) (.int .i64 y))))
  refine hK.out _ _ hSt (fun hB => ?_)
  clear hK K hB
  try simp only [Act.put, List.setIfInBounds_toArray, List.set_cons_zero, List.set_cons_succ]
  refine wpAnyH_take (i := 15) (oi := { dst := some 5, op := Op.assign (Operand.tmp 19), type := 4, pos := _, after := #[{ on := 13, ground := Ground.data }, { on := 14, ground := Ground.chain }, { on := 0, ground := Ground.phase }, { on := 1, ground := Ground.phase }, { on := 2, ground := Ground.phase }, { on := 3, ground := Ground.phase }, { on := 4, ground := Ground.phase }, { on := 5, ground := Ground.phase }, { on := 6, ground := Ground.phase }, { on := 7, ground := Ground.phase }, { on := 8, ground := Ground.phase }, { on := 9, ground := Ground.phase }, { on := 10, ground := Ground.phase }, { on := 11, ground := Ground.phase }, { on := 12, ground := Ground.phase }, { on := 13, ground := Ground.phase }, { on := 14, ground := Ground.phase }], guard := none }) (v := (.bool r)) rfl (by kernel_rfl) (by kernel_rfl) (by kernel_rfl) (fun _ _ _ h => h) (Or.inl ⟨by rfl, fun w' hS => by (try dsimp only at hS); go_simp⟩) hSt ?_
  simp only [Act.put, List.setIfInBounds_toArray, List.set_cons_zero, List.set_cons_succ]
  refine wpAnyH_done (by kernel_rfl) ?_ _
  refine NoPanic.normal ?_
  have HBF : Hid _ := set2_blw HB.out (B := w.heap.size + 1) (by omega) (.int .i64 g) (.int .i64 y)
  clear hSt HL HR HB PL0 PL1 Hb1 Pb1 Hb2 Pb2
  go_wp2
  exact bodyPost_ret (v := .tuple #[.agg #[.int .i64 g, .int .i64 y], .bool r]) (by simp [results, Try.results204, go_sem, t0, t1]) rfl ⟨r, rfl, HR2.out, HBF.out⟩
set_option maxRecDepth 10000 in
set_option maxHeartbeats 3200000 in
theorem unmapFn_any (ox oy : Int) (w : World) :
    Calls Try.prog 205 #[.agg #[.int .i64 ox, .int .i64 oy]] w fun e w' => ∃ r, e = .returned (.tuple #[.agg #[.int .i64 0, .int .i64 0], .bool r]) ∧ (r = true ↔ ¬ oy = 0) ∧ Blw w w' := by
  have hA1 : Blw w (w.alloc (.cells #[.int .i64 ox, .int .i64 oy] 144)) := (Blw.refl _).alloc _
  have hA2 : Blw (w.alloc (.cells #[.int .i64 ox, .int .i64 oy] 144)) ((w.alloc (.cells #[.int .i64 ox, .int .i64 oy] 144)).alloc (.cells #[.int .i64 0, .int .i64 0] 144)) := (Blw.refl _).alloc _
  have HB : Hid (Blw w ((w.alloc (.cells #[.int .i64 ox, .int .i64 oy] 144)).alloc (.cells #[.int .i64 0, .int .i64 0] 144))) := hA1.trans hA2
  have HL : Hid (Row ((w.alloc (.cells #[.int .i64 ox, .int .i64 oy] 144)).alloc (.cells #[.int .i64 0, .int .i64 0] 144)) w.heap.size 2 (fun i => if i = 0 then .int .i64 ox else .int .i64 oy)) := (box2 w _ _ 144).blw hA2
  have rR := box2 (w.alloc (.cells #[.int .i64 ox, .int .i64 oy] 144)) (.int .i64 0) (.int .i64 0) 144
  rw [World.size_alloc] at rR
  have HR : Hid (Row ((w.alloc (.cells #[.int .i64 ox, .int .i64 oy] 144)).alloc (.cells #[.int .i64 0, .int .i64 0] 144)) (w.heap.size + 1) 2 (fun i => if i = 0 then .int .i64 0 else .int .i64 0)) := rR
  clear hA1 hA2 rR 
  go_enter Try.func205, Try.ntmps205
  obtain ⟨r, hr, hr2⟩ : ∃ r, (oy != 0) = r ∧ (r = true ↔ ¬ oy = 0) := ⟨_, rfl, by simp⟩
  have HRR : Hid (r = true ↔ ¬ oy = 0) := hr2
  clear hr2
  go_upto_region 1 with fail
  generalize ((w.alloc (.cells #[.int .i64 ox, .int .i64 oy] 144)).alloc (.cells #[.int .i64 0, .int .i64 0] 144)) = W at *
  replace HL : Hid (Row W.drew w.heap.size 2 (fun i => if i = 0 then .int .i64 ox else .int .i64 oy)) := HL.out.blw (Blw.refl _).drew
  replace HR : Hid (Row W.drew (w.heap.size + 1) 2 (fun i => if i = 0 then .int .i64 0 else .int .i64 0)) := HR.out.blw (Blw.refl _).drew
  replace HB : Hid (Blw w W.drew) := HB.out.drew
  have PL0 : ∀ w', (Row w' w.heap.size 2 (fun i => if i = 0 then .int .i64 ox else .int .i64 oy)) → w'.cell? ⟨w.heap.size, 0, none⟩ = some (.int .i64 ox) := fun w' hh => (get2 hh).1
  have PL1 : ∀ w', (Row w' w.heap.size 2 (fun i => if i = 0 then .int .i64 ox else .int .i64 oy)) → w'.cell? ⟨w.heap.size, 1, none⟩ = some (.int .i64 oy) := fun w' hh => (get2 hh).2
  obtain ⟨t0, t1⟩ := get2 HR.out
  have f0 := HR.out.frozen 0
  have f1 := HR.out.frozen 1
  refine wp_region_noPanic ?_
  refine wp_region_held_drew (S := fun w' => Row w' w.heap.size 2 (fun i => if i = 0 then .int .i64 ox else .int .i64 oy)) (by kernel_rfl) HL.out (fun hB => ?_)
  clear hB
  generalize W.drew = wd at *
  refine wpAnyH_take (i := 0) (oi := { dst := some 4, op := Op.build 144 #[], type := 144, pos := _, after := #[], guard := none }) (v := (.agg #[.int .i64 0, .int .i64 0])) rfl (by kernel_rfl) (by kernel_rfl) (by kernel_rfl) (fun _ _ _ h => h) (Or.inl ⟨by rfl, fun w' hS => by (try dsimp only at hS); go_simp⟩) HL.out ?_
  simp only [Act.put, List.setIfInBounds_toArray, List.set_cons_zero, List.set_cons_succ]
  refine wpAnyH_take (i := 1) (oi := { dst := some 5, op := Op.fieldAddr 144 (Operand.tmp 1) 1, type := 0, pos := _, after := #[{ on := 4, ground := Ground.gcOnly Departure.lateStores }], guard := none }) (v := (.pointer (some ⟨w.heap.size, 1, none⟩))) rfl (by kernel_rfl) (by kernel_rfl) (by kernel_rfl) (fun _ _ _ h => h) (Or.inl ⟨by rfl, fun w' hS => by (try dsimp only at hS); go_simp⟩) HL.out ?_
  simp only [Act.put, List.setIfInBounds_toArray, List.set_cons_zero, List.set_cons_succ]
  refine wpAnyH_take (i := 2) (oi := { dst := some 6, op := Op.load 3 (Operand.tmp 5), type := 3, pos := _, after := #[{ on := 1, ground := Ground.data }, { on := 4, ground := Ground.gcOnly Departure.lateStores }], guard := none }) (v := (.int .i64 oy)) rfl (by kernel_rfl) (by kernel_rfl) (by kernel_rfl) (fun _ _ _ h => h) (Or.inl ⟨by rfl, fun w' hS => by (try dsimp only at hS); go_simp⟩) HL.out ?_
  simp only [Act.put, List.setIfInBounds_toArray, List.set_cons_zero, List.set_cons_succ]
  refine wpAnyH_take (i := 3) (oi := { dst := some 7, op := Op.binOp BinOp.neq 3 (Operand.tmp 6) (Operand.const (Value.int IntKind.i64 0)) 3, type := 4, pos := _, after := #[{ on := 2, ground := Ground.data }, { on := 4, ground := Ground.gcOnly Departure.lateStores }], guard := none }) (v := (.bool r)) rfl (by kernel_rfl) (by kernel_rfl) (by kernel_rfl) (fun _ _ _ h => h) (Or.inl ⟨by rfl, fun w' hS => by (try dsimp only at hS); go_simp⟩) HL.out ?_
  simp only [Act.put, List.setIfInBounds_toArray, List.set_cons_zero, List.set_cons_succ]
  refine wpAnyH_ready (rs := [4]) (by kernel_rfl) (by simp) ?_
  refine AllReadyH.cons (o := { dst := none, op := Op.store 144 (Operand.tmp 2) (Operand.tmp 4), type := 0, pos := _, after := #[{ on := 0, ground := Ground.data }, { on := 0, ground := Ground.phase }, { on := 1, ground := Ground.textOnly Departure.lateStores }, { on := 2, ground := Ground.textOnly Departure.lateStores }, { on := 3, ground := Ground.textOnly Departure.lateStores }], guard := none }) rfl (fun K hK => ?_) AllReadyH.nil
  go_simp
  have hSt := ((HL.out.setOther (a := ⟨w.heap.size + 1, 0, none⟩) (by show w.heap.size ≠ w.heap.size + 1; omega) (.int .i64 0)).setOther (a := ⟨w.heap.size + 1, 1, none⟩) (by show w.heap.size ≠ w.heap.size + 1; omega) (.int .i64 0))
  refine hK.out _ _ hSt (fun hB => ?_)
  clear hK K hB
  try simp only [Act.put, List.setIfInBounds_toArray, List.set_cons_zero, List.set_cons_succ]
  refine wpAnyH_take (i := 5) (oi := { dst := some 3, op := Op.assign (Operand.tmp 7), type := 4, pos := _, after := #[{ on := 3, ground := Ground.data }, { on := 4, ground := Ground.chain }, { on := 0, ground := Ground.phase }, { on := 1, ground := Ground.phase }, { on := 2, ground := Ground.phase }, { on := 3, ground := Ground.phase }, { on := 4, ground := Ground.phase }], guard := none }) (v := (.bool r)) rfl (by kernel_rfl) (by kernel_rfl) (by kernel_rfl) (fun _ _ _ h => h) (Or.inl ⟨by rfl, fun w' hS => by (try dsimp only at hS); go_simp⟩) hSt ?_
  simp only [Act.put, List.setIfInBounds_toArray, List.set_cons_zero, List.set_cons_succ]
  refine wpAnyH_done (by kernel_rfl) ?_ _
  refine NoPanic.normal ?_
  have HBF : Hid _ := set2_blw HB.out (B := w.heap.size + 1) (by omega) (.int .i64 0) (.int .i64 0)
  clear hSt HL HR HB PL0 PL1 
  go_wp2
  exact bodyPost_ret (v := .tuple #[.agg #[.int .i64 0, .int .i64 0], .bool r]) (by simp [results, Try.results205, go_sem, t0, t1]) rfl ⟨r, rfl, HRR.out, HBF.out⟩
set_option maxRecDepth 10000 in
set_option maxHeartbeats 3200000 in
theorem protFn_any (ox oy y : Int) (b2 : Nat) (w : World) (hb2 : Row w b2 1 (fun _ => .int .i64 y)) :
    Calls Try.prog 206 #[.agg #[.int .i64 ox, .int .i64 oy], .pointer (some ⟨b2, 0, none⟩)] w fun e w' => ∃ r, e = .returned (.tuple #[.agg #[.int .i64 ox, .int .i64 y], .bool r]) ∧ (r = true ↔ ¬ oy = 0 ∧ mayOK y) ∧ Blw w w' := by
  have hA1 : Blw w (w.alloc (.cells #[.int .i64 ox, .int .i64 oy] 144)) := (Blw.refl _).alloc _
  have hA2 : Blw (w.alloc (.cells #[.int .i64 ox, .int .i64 oy] 144)) ((w.alloc (.cells #[.int .i64 ox, .int .i64 oy] 144)).alloc (.cells #[.int .i64 0, .int .i64 0] 144)) := (Blw.refl _).alloc _
  have HB : Hid (Blw w ((w.alloc (.cells #[.int .i64 ox, .int .i64 oy] 144)).alloc (.cells #[.int .i64 0, .int .i64 0] 144))) := hA1.trans hA2
  have HL : Hid (Row ((w.alloc (.cells #[.int .i64 ox, .int .i64 oy] 144)).alloc (.cells #[.int .i64 0, .int .i64 0] 144)) w.heap.size 2 (fun i => if i = 0 then .int .i64 ox else .int .i64 oy)) := (box2 w _ _ 144).blw hA2
  have rR := box2 (w.alloc (.cells #[.int .i64 ox, .int .i64 oy] 144)) (.int .i64 0) (.int .i64 0) 144
  rw [World.size_alloc] at rR
  have HR : Hid (Row ((w.alloc (.cells #[.int .i64 ox, .int .i64 oy] 144)).alloc (.cells #[.int .i64 0, .int .i64 0] 144)) (w.heap.size + 1) 2 (fun i => if i = 0 then .int .i64 0 else .int .i64 0)) := rR
  have Hb2 : Hid (Row ((w.alloc (.cells #[.int .i64 ox, .int .i64 oy] 144)).alloc (.cells #[.int .i64 0, .int .i64 0] 144)) b2 1 (fun _ => .int .i64 y)) := hb2.blw (hA1.trans hA2)
  have lb2 := hb2.lt
  clear hA1 hA2 rR hb2
  go_enter Try.func206, Try.ntmps206
  by_cases h0 : oy = 0
  case pos =>
    have d1 : (oy != 0) = false := by simp [h0]
    have HN : Hid (¬ (¬ oy = 0 ∧ mayOK y)) := fun q => q.1 h0
    clear h0
    go_upto_region 1 with fail
    generalize ((w.alloc (.cells #[.int .i64 ox, .int .i64 oy] 144)).alloc (.cells #[.int .i64 0, .int .i64 0] 144)) = W at *
    replace Hb2 : Hid (Row W.drew b2 1 (fun _ => .int .i64 y)) := Hb2.out.blw (Blw.refl _).drew
    replace HL : Hid (Row W.drew w.heap.size 2 (fun i => if i = 0 then .int .i64 ox else .int .i64 oy)) := HL.out.blw (Blw.refl _).drew
    replace HR : Hid (Row W.drew (w.heap.size + 1) 2 (fun i => if i = 0 then .int .i64 0 else .int .i64 0)) := HR.out.blw (Blw.refl _).drew
    replace HB : Hid (Blw w W.drew) := HB.out.drew
    have Pb2 : ∀ w', (Row w' b2 1 (fun _ => .int .i64 y) ∧ Row w' w.heap.size 2 (fun i => if i = 0 then .int .i64 ox else .int .i64 oy)) → w'.cell? ⟨b2, 0, none⟩ = some (.int .i64 y) := fun w' hh => (hh.1).cell (i := 0) (by omega)
    have PL0 : ∀ w', (Row w' b2 1 (fun _ => .int .i64 y) ∧ Row w' w.heap.size 2 (fun i => if i = 0 then .int .i64 ox else .int .i64 oy)) → w'.cell? ⟨w.heap.size, 0, none⟩ = some (.int .i64 ox) := fun w' hh => (get2 hh.2).1
    have PL1 : ∀ w', (Row w' b2 1 (fun _ => .int .i64 y) ∧ Row w' w.heap.size 2 (fun i => if i = 0 then .int .i64 ox else .int .i64 oy)) → w'.cell? ⟨w.heap.size, 1, none⟩ = some (.int .i64 oy) := fun w' hh => (get2 hh.2).2
    obtain ⟨t0, t1⟩ := get2 HR.out
    have f0 := HR.out.frozen 0
    have f1 := HR.out.frozen 1
    refine wp_region_noPanic ?_
    refine wp_region_held_drew (S := fun w' => Row w' b2 1 (fun _ => .int .i64 y) ∧ Row w' w.heap.size 2 (fun i => if i = 0 then .int .i64 ox else .int .i64 oy)) (by kernel_rfl) ⟨Hb2.out, HL.out⟩ (fun hB => ?_)
    clear hB
    generalize W.drew = wd at *
    refine wpAnyH_take (i := 0) (oi := { dst := some 5, op := Op.fieldAddr 144 (Operand.tmp 2) 0, type := 0, pos := _, after := #[], guard := none }) (v := (.pointer (some ⟨w.heap.size, 0, none⟩))) rfl (by kernel_rfl) (by kernel_rfl) (by kernel_rfl) (fun _ _ _ h => h) (Or.inl ⟨by rfl, fun w' hS => by (try dsimp only at hS); go_simp⟩) ⟨Hb2.out, HL.out⟩ ?_
    simp only [Act.put, List.setIfInBounds_toArray, List.set_cons_zero, List.set_cons_succ]
    refine wpAnyH_take (i := 2) (oi := { dst := some 7, op := Op.load 3 (Operand.tmp 1), type := 3, pos := _, after := #[], guard := none }) (v := (.int .i64 y)) rfl (by kernel_rfl) (by kernel_rfl) (by kernel_rfl) (fun _ _ _ h => h) (Or.inl ⟨by rfl, fun w' hS => by (try dsimp only at hS); go_simp⟩) ⟨Hb2.out, HL.out⟩ ?_
    simp only [Act.put, List.setIfInBounds_toArray, List.set_cons_zero, List.set_cons_succ]
    refine wpAnyH_take (i := 4) (oi := { dst := some 9, op := Op.fieldAddr 144 (Operand.tmp 2) 1, type := 0, pos := _, after := #[], guard := none }) (v := (.pointer (some ⟨w.heap.size, 1, none⟩))) rfl (by kernel_rfl) (by kernel_rfl) (by kernel_rfl) (fun _ _ _ h => h) (Or.inl ⟨by rfl, fun w' hS => by (try dsimp only at hS); go_simp⟩) ⟨Hb2.out, HL.out⟩ ?_
    simp only [Act.put, List.setIfInBounds_toArray, List.set_cons_zero, List.set_cons_succ]
    refine wpAnyH_take (i := 1) (oi := { dst := some 6, op := Op.load 3 (Operand.tmp 5), type := 3, pos := _, after := #[{ on := 0, ground := Ground.data }], guard := none }) (v := (.int .i64 ox)) rfl (by kernel_rfl) (by kernel_rfl) (by kernel_rfl) (fun _ _ _ h => h) (Or.inl ⟨by rfl, fun w' hS => by (try dsimp only at hS); go_simp⟩) ⟨Hb2.out, HL.out⟩ ?_
    simp only [Act.put, List.setIfInBounds_toArray, List.set_cons_zero, List.set_cons_succ]
    refine wpAnyH_take (i := 5) (oi := { dst := some 10, op := Op.load 3 (Operand.tmp 9), type := 3, pos := _, after := #[{ on := 4, ground := Ground.data }], guard := none }) (v := (.int .i64 oy)) rfl (by kernel_rfl) (by kernel_rfl) (by kernel_rfl) (fun _ _ _ h => h) (Or.inl ⟨by rfl, fun w' hS => by (try dsimp only at hS); go_simp⟩) ⟨Hb2.out, HL.out⟩ ?_
    simp only [Act.put, List.setIfInBounds_toArray, List.set_cons_zero, List.set_cons_succ]
    refine wpAnyH_take (i := 3) (oi := { dst := some 8, op := Op.build 144 #[(0, Operand.tmp 6), (1, Operand.tmp 7)], type := 144, pos := _, after := #[{ on := 1, ground := Ground.data }, { on := 2, ground := Ground.data }], guard := none }) (v := (.agg #[.int .i64 ox, .int .i64 y])) rfl (by kernel_rfl) (by kernel_rfl) (by kernel_rfl) (fun _ _ _ h => h) (Or.inl ⟨by rfl, fun w' hS => by (try dsimp only at hS); go_simp⟩) ⟨Hb2.out, HL.out⟩ ?_
    simp only [Act.put, List.setIfInBounds_toArray, List.set_cons_zero, List.set_cons_succ]
    refine wpAnyH_take (i := 6) (oi := { dst := some 11, op := Op.binOp BinOp.neq 3 (Operand.tmp 10) (Operand.const (Value.int IntKind.i64 0)) 3, type := 4, pos := _, after := #[{ on := 5, ground := Ground.data }], guard := none }) (v := (.bool false)) rfl (by kernel_rfl) (by kernel_rfl) (by kernel_rfl) (fun _ _ _ h => h) (Or.inl ⟨by rfl, fun w' hS => by (try dsimp only at hS); go_simp⟩) ⟨Hb2.out, HL.out⟩ ?_
    simp only [Act.put, List.setIfInBounds_toArray, List.set_cons_zero, List.set_cons_succ]
    refine wpAnyH_take (i := 7) (oi := { dst := some 12, op := Op.move (Operand.tmp 11), type := 4, pos := _, after := #[{ on := 6, ground := Ground.data }], guard := none }) (v := (.bool false)) rfl (by kernel_rfl) (by kernel_rfl) (by kernel_rfl) (fun _ _ _ h => h) (Or.inl ⟨by rfl, fun w' hS => by (try dsimp only at hS); go_simp⟩) ⟨Hb2.out, HL.out⟩ ?_
    simp only [Act.put, List.setIfInBounds_toArray, List.set_cons_zero, List.set_cons_succ]
    refine wpAnyH_take (i := 8) (oi := { dst := some 13, op := Op.load 3 (Operand.tmp 1), type := 3, pos := _, after := #[{ on := 7, ground := Ground.guard }], guard := some (7, true) }) (v := undef) rfl (by kernel_rfl) (by kernel_rfl) (by kernel_rfl) (fun _ _ _ h => h) (Or.inr ⟨by rfl, rfl⟩) ⟨Hb2.out, HL.out⟩ ?_
    simp only [Act.put, List.setIfInBounds_toArray, List.set_cons_zero, List.set_cons_succ]
    refine wpAnyH_take (i := 9) (oi := { dst := some 14, op := Op.call { callee := Callee.value (Operand.func 103), args := #[Operand.tmp 13], argTypes := #[3] }, type := 4, pos := _, after := #[{ on := 8, ground := Ground.data }, { on := 7, ground := Ground.chain }, { on := 7, ground := Ground.guard }], guard := some (7, true) }) (v := undef) rfl (by kernel_rfl) (by kernel_rfl) (by kernel_rfl) (fun _ _ _ h => h) (Or.inr ⟨by rfl, rfl⟩) ⟨Hb2.out, HL.out⟩ ?_
    simp only [Act.put, List.setIfInBounds_toArray, List.set_cons_zero, List.set_cons_succ]
    refine wpAnyH_take (i := 10) (oi := { dst := some 15, op := Op.pick (Operand.tmp 12) (Operand.tmp 14) (Operand.const (Value.bool false)), type := 4, pos := _, after := #[{ on := 7, ground := Ground.data }, { on := 9, ground := Ground.data }, { on := 11, ground := Ground.gcOnly Departure.lateStores }], guard := none }) (v := (.bool false)) rfl (by kernel_rfl) (by kernel_rfl) (by kernel_rfl) (fun _ _ _ h => h) (Or.inl ⟨by rfl, fun w' hS => by (try dsimp only at hS); go_simp⟩) ⟨Hb2.out, HL.out⟩ ?_
    simp only [Act.put, List.setIfInBounds_toArray, List.set_cons_zero, List.set_cons_succ]
    refine wpAnyH_ready (rs := [11]) (by kernel_rfl) (by simp) ?_
    refine AllReadyH.cons (o := { dst := none, op := Op.store 144 (Operand.tmp 3) (Operand.tmp 8), type := 0, pos := _, after := #[{ on := 3, ground := Ground.data }, { on := 9, ground := Ground.chain }, { on := 0, ground := Ground.phase }, { on := 1, ground := Ground.phase }, { on := 2, ground := Ground.phase }, { on := 3, ground := Ground.phase }, { on := 4, ground := Ground.textOnly Departure.lateStores }, { on := 5, ground := Ground.textOnly Departure.lateStores }, { on := 6, ground := Ground.textOnly Departure.lateStores }, { on := 7, ground := Ground.textOnly Departure.lateStores }, { on := 8, ground := Ground.textOnly Departure.lateStores }, { on := 9, ground := Ground.textOnly Departure.lateStoresUnsure }, { on := 10, ground := Ground.textOnly Departure.lateStores }], guard := none }) rfl (fun K hK => ?_) AllReadyH.nil
    go_simp
    have hSt := (And.intro ((Hb2.out.setOther (a := ⟨w.heap.size + 1, 0, none⟩) (by show b2 ≠ w.heap.size + 1; omega) (.int .i64 ox)).setOther (a := ⟨w.heap.size + 1, 1, none⟩) (by show b2 ≠ w.heap.size + 1; omega) (.int .i64 y)) ((HL.out.setOther (a := ⟨w.heap.size + 1, 0, none⟩) (by show w.heap.size ≠ w.heap.size + 1; omega) (.int .i64 ox)).setOther (a := ⟨w.heap.size + 1, 1, none⟩) (by show w.heap.size ≠ w.heap.size + 1; omega) (.int .i64 y)))
    refine hK.out _ _ hSt (fun hB => ?_)
    clear hK K hB
    try simp only [Act.put, List.setIfInBounds_toArray, List.set_cons_zero, List.set_cons_succ]
    refine wpAnyH_take (i := 12) (oi := { dst := some 4, op := Op.assign (Operand.tmp 15), type := 4, pos := _, after := #[{ on := 10, ground := Ground.data }, { on := 11, ground := Ground.chain }, { on := 0, ground := Ground.phase }, { on := 1, ground := Ground.phase }, { on := 2, ground := Ground.phase }, { on := 3, ground := Ground.phase }, { on := 4, ground := Ground.phase }, { on := 5, ground := Ground.phase }, { on := 6, ground := Ground.phase }, { on := 7, ground := Ground.phase }, { on := 8, ground := Ground.phase }, { on := 9, ground := Ground.phase }, { on := 10, ground := Ground.phase }, { on := 11, ground := Ground.phase }], guard := none }) (v := (.bool false)) rfl (by kernel_rfl) (by kernel_rfl) (by kernel_rfl) (fun _ _ _ h => h) (Or.inl ⟨by rfl, fun w' hS => by (try dsimp only at hS); go_simp⟩) hSt ?_
    simp only [Act.put, List.setIfInBounds_toArray, List.set_cons_zero, List.set_cons_succ]
    refine wpAnyH_done (by kernel_rfl) ?_ _
    refine NoPanic.normal ?_
    have HBF : Hid _ := set2_blw HB.out (B := w.heap.size + 1) (by omega) (.int .i64 ox) (.int .i64 y)
    clear hSt HL HR HB PL0 PL1 Hb2 Pb2
    go_wp2
    exact bodyPost_ret (v := .tuple #[.agg #[.int .i64 ox, .int .i64 y], .bool false]) (by simp [results, Try.results206, go_sem, t0, t1]) rfl ⟨false, rfl, iff_f HN.out, HBF.out⟩
  have d1 : (oy != 0) = true := by simp [h0]
  have H0 : Hid (¬ oy = 0) := h0
  clear h0
  go_upto_region 1 with fail
  generalize ((w.alloc (.cells #[.int .i64 ox, .int .i64 oy] 144)).alloc (.cells #[.int .i64 0, .int .i64 0] 144)) = W at *
  replace Hb2 : Hid (Row W.drew b2 1 (fun _ => .int .i64 y)) := Hb2.out.blw (Blw.refl _).drew
  replace HL : Hid (Row W.drew w.heap.size 2 (fun i => if i = 0 then .int .i64 ox else .int .i64 oy)) := HL.out.blw (Blw.refl _).drew
  replace HR : Hid (Row W.drew (w.heap.size + 1) 2 (fun i => if i = 0 then .int .i64 0 else .int .i64 0)) := HR.out.blw (Blw.refl _).drew
  replace HB : Hid (Blw w W.drew) := HB.out.drew
  have Pb2 : ∀ w', (Row w' b2 1 (fun _ => .int .i64 y) ∧ Row w' w.heap.size 2 (fun i => if i = 0 then .int .i64 ox else .int .i64 oy)) → w'.cell? ⟨b2, 0, none⟩ = some (.int .i64 y) := fun w' hh => (hh.1).cell (i := 0) (by omega)
  have PL0 : ∀ w', (Row w' b2 1 (fun _ => .int .i64 y) ∧ Row w' w.heap.size 2 (fun i => if i = 0 then .int .i64 ox else .int .i64 oy)) → w'.cell? ⟨w.heap.size, 0, none⟩ = some (.int .i64 ox) := fun w' hh => (get2 hh.2).1
  have PL1 : ∀ w', (Row w' b2 1 (fun _ => .int .i64 y) ∧ Row w' w.heap.size 2 (fun i => if i = 0 then .int .i64 ox else .int .i64 oy)) → w'.cell? ⟨w.heap.size, 1, none⟩ = some (.int .i64 oy) := fun w' hh => (get2 hh.2).2
  obtain ⟨t0, t1⟩ := get2 HR.out
  have f0 := HR.out.frozen 0
  have f1 := HR.out.frozen 1
  refine wp_region_noPanic ?_
  refine wp_region_held_drew (S := fun w' => Row w' b2 1 (fun _ => .int .i64 y) ∧ Row w' w.heap.size 2 (fun i => if i = 0 then .int .i64 ox else .int .i64 oy)) (by kernel_rfl) ⟨Hb2.out, HL.out⟩ (fun hB => ?_)
  clear hB
  generalize W.drew = wd at *
  refine wpAnyH_take (i := 0) (oi := { dst := some 5, op := Op.fieldAddr 144 (Operand.tmp 2) 0, type := 0, pos := _, after := #[], guard := none }) (v := (.pointer (some ⟨w.heap.size, 0, none⟩))) rfl (by kernel_rfl) (by kernel_rfl) (by kernel_rfl) (fun _ _ _ h => h) (Or.inl ⟨by rfl, fun w' hS => by (try dsimp only at hS); go_simp⟩) ⟨Hb2.out, HL.out⟩ ?_
  simp only [Act.put, List.setIfInBounds_toArray, List.set_cons_zero, List.set_cons_succ]
  refine wpAnyH_take (i := 2) (oi := { dst := some 7, op := Op.load 3 (Operand.tmp 1), type := 3, pos := _, after := #[], guard := none }) (v := (.int .i64 y)) rfl (by kernel_rfl) (by kernel_rfl) (by kernel_rfl) (fun _ _ _ h => h) (Or.inl ⟨by rfl, fun w' hS => by (try dsimp only at hS); go_simp⟩) ⟨Hb2.out, HL.out⟩ ?_
  simp only [Act.put, List.setIfInBounds_toArray, List.set_cons_zero, List.set_cons_succ]
  refine wpAnyH_take (i := 4) (oi := { dst := some 9, op := Op.fieldAddr 144 (Operand.tmp 2) 1, type := 0, pos := _, after := #[], guard := none }) (v := (.pointer (some ⟨w.heap.size, 1, none⟩))) rfl (by kernel_rfl) (by kernel_rfl) (by kernel_rfl) (fun _ _ _ h => h) (Or.inl ⟨by rfl, fun w' hS => by (try dsimp only at hS); go_simp⟩) ⟨Hb2.out, HL.out⟩ ?_
  simp only [Act.put, List.setIfInBounds_toArray, List.set_cons_zero, List.set_cons_succ]
  refine wpAnyH_take (i := 1) (oi := { dst := some 6, op := Op.load 3 (Operand.tmp 5), type := 3, pos := _, after := #[{ on := 0, ground := Ground.data }], guard := none }) (v := (.int .i64 ox)) rfl (by kernel_rfl) (by kernel_rfl) (by kernel_rfl) (fun _ _ _ h => h) (Or.inl ⟨by rfl, fun w' hS => by (try dsimp only at hS); go_simp⟩) ⟨Hb2.out, HL.out⟩ ?_
  simp only [Act.put, List.setIfInBounds_toArray, List.set_cons_zero, List.set_cons_succ]
  refine wpAnyH_take (i := 5) (oi := { dst := some 10, op := Op.load 3 (Operand.tmp 9), type := 3, pos := _, after := #[{ on := 4, ground := Ground.data }], guard := none }) (v := (.int .i64 oy)) rfl (by kernel_rfl) (by kernel_rfl) (by kernel_rfl) (fun _ _ _ h => h) (Or.inl ⟨by rfl, fun w' hS => by (try dsimp only at hS); go_simp⟩) ⟨Hb2.out, HL.out⟩ ?_
  simp only [Act.put, List.setIfInBounds_toArray, List.set_cons_zero, List.set_cons_succ]
  refine wpAnyH_take (i := 3) (oi := { dst := some 8, op := Op.build 144 #[(0, Operand.tmp 6), (1, Operand.tmp 7)], type := 144, pos := _, after := #[{ on := 1, ground := Ground.data }, { on := 2, ground := Ground.data }], guard := none }) (v := (.agg #[.int .i64 ox, .int .i64 y])) rfl (by kernel_rfl) (by kernel_rfl) (by kernel_rfl) (fun _ _ _ h => h) (Or.inl ⟨by rfl, fun w' hS => by (try dsimp only at hS); go_simp⟩) ⟨Hb2.out, HL.out⟩ ?_
  simp only [Act.put, List.setIfInBounds_toArray, List.set_cons_zero, List.set_cons_succ]
  refine wpAnyH_take (i := 6) (oi := { dst := some 11, op := Op.binOp BinOp.neq 3 (Operand.tmp 10) (Operand.const (Value.int IntKind.i64 0)) 3, type := 4, pos := _, after := #[{ on := 5, ground := Ground.data }], guard := none }) (v := (.bool true)) rfl (by kernel_rfl) (by kernel_rfl) (by kernel_rfl) (fun _ _ _ h => h) (Or.inl ⟨by rfl, fun w' hS => by (try dsimp only at hS); go_simp⟩) ⟨Hb2.out, HL.out⟩ ?_
  simp only [Act.put, List.setIfInBounds_toArray, List.set_cons_zero, List.set_cons_succ]
  refine wpAnyH_take (i := 7) (oi := { dst := some 12, op := Op.move (Operand.tmp 11), type := 4, pos := _, after := #[{ on := 6, ground := Ground.data }], guard := none }) (v := (.bool true)) rfl (by kernel_rfl) (by kernel_rfl) (by kernel_rfl) (fun _ _ _ h => h) (Or.inl ⟨by rfl, fun w' hS => by (try dsimp only at hS); go_simp⟩) ⟨Hb2.out, HL.out⟩ ?_
  simp only [Act.put, List.setIfInBounds_toArray, List.set_cons_zero, List.set_cons_succ]
  refine wpAnyH_take (i := 8) (oi := { dst := some 13, op := Op.load 3 (Operand.tmp 1), type := 3, pos := _, after := #[{ on := 7, ground := Ground.guard }], guard := some (7, true) }) (v := (.int .i64 y)) rfl (by kernel_rfl) (by kernel_rfl) (by kernel_rfl) (fun _ _ _ h => h) (Or.inl ⟨by rfl, fun w' hS => by (try dsimp only at hS); go_simp⟩) ⟨Hb2.out, HL.out⟩ ?_
  simp only [Act.put, List.setIfInBounds_toArray, List.set_cons_zero, List.set_cons_succ]
  refine wpAnyH_ready (rs := [9]) (by kernel_rfl) (by simp) ?_
  refine AllReadyH.cons (o := { dst := some 14, op := Op.call { callee := Callee.value (Operand.func 103), args := #[Operand.tmp 13], argTypes := #[3] }, type := 4, pos := _, after := #[{ on := 8, ground := Ground.data }, { on := 7, ground := Ground.chain }, { on := 7, ground := Ground.guard }], guard := some (7, true) }) rfl (fun K hK => ?_) AllReadyH.nil
  go_simp
  refine (isMay_any y _).mono ?_
  rintro e w1 ⟨r, rfl, hr, rfl⟩
  have HR2 : Hid (r = true ↔ (¬ oy = 0 ∧ mayOK y)) := hr.trans ⟨fun q => ⟨H0.out, q⟩, fun q => q.2⟩
  clear hr
  refine hK.out _ _ ⟨Hb2.out, HL.out⟩ (fun hB => ?_)
  clear hK K hB
  try simp only [Act.put, List.setIfInBounds_toArray, List.set_cons_zero, List.set_cons_succ]
  refine wpAnyH_take (i := 10) (oi := { dst := some 15, op := Op.pick (Operand.tmp 12) (Operand.tmp 14) (Operand.const (Value.bool false)), type := 4, pos := _, after := #[{ on := 7, ground := Ground.data }, { on := 9, ground := Ground.data }, { on := 11, ground := Ground.gcOnly Departure.lateStores }], guard := none }) (v := (.bool r)) rfl (by kernel_rfl) (by kernel_rfl) (by kernel_rfl) (fun _ _ _ h => h) (Or.inl ⟨by rfl, fun w' hS => by (try dsimp only at hS); go_simp⟩) ⟨Hb2.out, HL.out⟩ ?_
  simp only [Act.put, List.setIfInBounds_toArray, List.set_cons_zero, List.set_cons_succ]
  refine wpAnyH_ready (rs := [11]) (by kernel_rfl) (by simp) ?_
  refine AllReadyH.cons (o := { dst := none, op := Op.store 144 (Operand.tmp 3) (Operand.tmp 8), type := 0, pos := _, after := #[{ on := 3, ground := Ground.data }, { on := 9, ground := Ground.chain }, { on := 0, ground := Ground.phase }, { on := 1, ground := Ground.phase }, { on := 2, ground := Ground.phase }, { on := 3, ground := Ground.phase }, { on := 4, ground := Ground.textOnly Departure.lateStores }, { on := 5, ground := Ground.textOnly Departure.lateStores }, { on := 6, ground := Ground.textOnly Departure.lateStores }, { on := 7, ground := Ground.textOnly Departure.lateStores }, { on := 8, ground := Ground.textOnly Departure.lateStores }, { on := 9, ground := Ground.textOnly Departure.lateStoresUnsure }, { on := 10, ground := Ground.textOnly Departure.lateStores }], guard := none }) rfl (fun K hK => ?_) AllReadyH.nil
  go_simp
  have hSt := (And.intro ((Hb2.out.setOther (a := ⟨w.heap.size + 1, 0, none⟩) (by show b2 ≠ w.heap.size + 1; omega) (.int .i64 ox)).setOther (a := ⟨w.heap.size + 1, 1, none⟩) (by show b2 ≠ w.heap.size + 1; omega) (.int .i64 y)) ((HL.out.setOther (a := ⟨w.heap.size + 1, 0, none⟩) (by show w.heap.size ≠ w.heap.size + 1; omega) (.int .i64 ox)).setOther (a := ⟨w.heap.size + 1, 1, none⟩) (by show w.heap.size ≠ w.heap.size + 1; omega) (.int .i64 y)))
  refine hK.out _ _ hSt (fun hB => ?_)
  clear hK K hB
  try simp only [Act.put, List.setIfInBounds_toArray, List.set_cons_zero, List.set_cons_succ]
  refine wpAnyH_take (i := 12) (oi := { dst := some 4, op := Op.assign (Operand.tmp 15), type := 4, pos := _, after := #[{ on := 10, ground := Ground.data }, { on := 11, ground := Ground.chain }, { on := 0, ground := Ground.phase }, { on := 1, ground := Ground.phase }, { on := 2, ground := Ground.phase }, { on := 3, ground := Ground.phase }, { on := 4, ground := Ground.phase }, { on := 5, ground := Ground.phase }, { on := 6, ground := Ground.phase }, { on := 7, ground := Ground.phase }, { on := 8, ground := Ground.phase }, { on := 9, ground := Ground.phase }, { on := 10, ground := Ground.phase }, { on := 11, ground := Ground.phase }], guard := none }) (v := (.bool r)) rfl (by kernel_rfl) (by kernel_rfl) (by kernel_rfl) (fun _ _ _ h => h) (Or.inl ⟨by rfl, fun w' hS => by (try dsimp only at hS); go_simp⟩) hSt ?_
  simp only [Act.put, List.setIfInBounds_toArray, List.set_cons_zero, List.set_cons_succ]
  refine wpAnyH_done (by kernel_rfl) ?_ _
  refine NoPanic.normal ?_
  have HBF : Hid _ := set2_blw HB.out (B := w.heap.size + 1) (by omega) (.int .i64 ox) (.int .i64 y)
  clear hSt HL HR HB PL0 PL1 Hb2 Pb2
  go_wp2
  exact bodyPost_ret (v := .tuple #[.agg #[.int .i64 ox, .int .i64 y], .bool r]) (by simp [results, Try.results206, go_sem, t0, t1]) rfl ⟨r, rfl, HR2.out, HBF.out⟩
end Go.Proofs.Ytjplodenflkghaa
