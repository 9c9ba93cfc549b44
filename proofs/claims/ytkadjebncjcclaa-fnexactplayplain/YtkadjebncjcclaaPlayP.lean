/- Steps played by a table: the program's. -/
import Derived.Test.YtkadjebncjcclaaPlayT
import Derived.Test.YtkadjebncjcclaaFactL
namespace Go.Proofs.Ytkadjebncjcclaa
open Go.RowKit
set_option linter.unusedSimpArgs false
set_option linter.unusedVariables false
/-- What a right step tells, and the table behind it. -/
def PSO (B : BD) (k a g y : Int) (R : BD) (v : Int) : Prop :=
  (k = 1 ∧ R = B ∧ ∃ x yy r, wtOut B a y x yy r ∧ v = if r = true then 1 + x else 0) ∨ (¬ k = 1 ∧ ∃ r, ctO B k a g y R r ∧ v = if r = true then 1 else 0)
def PSF (B : BD) (k a g y : Int) (R : BD) (v : Int) : Prop := (¬ rightS k a g y ∧ R = B ∧ v = -1) ∨ (rightS k a g y ∧ PSO B k a g y R v)
theorem right_k {k a g y : Int} (h : rightS k a g y) (h1 : ¬ k = 1) : k = 2 ∨ k = 3 ∨ k = 4 := by rcases h.2 with h | h | h <;> omega
theorem PSO_same {B : BD} {k a g y : Int} {R R' : BD} {v v' : Int} (hr : rightS k a g y) (h : PSO B k a g y R v) (h' : PSO B k a g y R' v') : R = R' ∧ v = v' := by
  rcases h with ⟨k1, rfl, x, yy, r, hw, rfl⟩ | ⟨k1, r, hc, rfl⟩ <;> rcases h' with ⟨k1', rfl, x', yy', r', hw', rfl⟩ | ⟨k1', r', hc', rfl⟩
  · obtain ⟨rfl, rfl, rfl⟩ := wtOut_same hw hw'; exact ⟨rfl, rfl⟩
  · exact absurd k1 k1'
  · exact absurd k1' k1
  · obtain ⟨rfl, rfl⟩ := ctO_same (right_k hr k1) hc hc'; exact ⟨rfl, rfl⟩
theorem PSF_same {B : BD} {k a g y : Int} {R R' : BD} {v v' : Int} (h : PSF B k a g y R v) (h' : PSF B k a g y R' v') : R = R' ∧ v = v' := by
  rcases h with ⟨n, rfl, rfl⟩ | ⟨n, h⟩ <;> rcases h' with ⟨n', rfl, rfl⟩ | ⟨n', h'⟩
  · exact ⟨rfl, rfl⟩
  · exact absurd n' n
  · exact absurd n n'
  · exact PSO_same n h h'
theorem wt_page {B : BD} {a y x yy : Int} {r : Bool} (h : wtOut B a y x yy r) : 0 ≤ x ∧ x ≤ 15 := by
  rcases h with ⟨_, rfl, _⟩ | ⟨ok, _, ⟨_, rfl, _⟩ | ⟨_, rfl, _⟩⟩
  · omega
  · have h1 : pgOK a := ok.2.1
    have := lf_ok ok.1 (a := a.toNat) (by unfold pgOK at h1; omega)
    unfold leafOK at this
    omega
  · omega
set_option maxRecDepth 10000 in
set_option maxHeartbeats 6400000 in
theorem stepT_any (E : Nat → Prop) (zt : Nat) (b : BV) (B : BD) (k a g y : Int) (w : World) (hr : rightS k a g y) (hE : ∀ x, E x → x < w.heap.size) (h : TS E w zt b B) :
    Calls Try.prog 62 #[.pointer (some ⟨zt, 0, none⟩), .agg #[.int .i64 k, .int .i64 a, .int .i64 g, .int .i64 y]] w fun e w' => ∃ b' R v, e = .returned (.int .i64 v) ∧ PSO B k a g y R v ∧ TS E w' zt b' R ∧ Mod (fun x => x = zt) w w' := by
  have hA : Blw w (w.alloc (.cells #[.int .i64 k, .int .i64 a, .int .i64 g, .int .i64 y] 42)) := (Blw.refl _).alloc _
  have HT : Hid (TS E (w.alloc (.cells #[.int .i64 k, .int .i64 a, .int .i64 g, .int .i64 y] 42)) zt b B) := h.blw hA
  have HS : Hid (Row (w.alloc (.cells #[.int .i64 k, .int .i64 a, .int .i64 g, .int .i64 y] 42)) w.heap.size 4 (fun i => if i = 0 then .int .i64 k else if i = 1 then .int .i64 a else if i = 2 then .int .i64 g else .int .i64 y)) := box4 w _ _ _ _ 42
  have HB : Hid (Blw w (w.alloc (.cells #[.int .i64 k, .int .i64 a, .int .i64 g, .int .i64 y] 42))) := hA
  have HRI : Hid (rightS k a g y) := hr
  have hsz : (w.alloc (.cells #[.int .i64 k, .int .i64 a, .int .i64 g, .int .i64 y] 42)).heap.size = w.heap.size + 1 := by simp
  have HSZ : Hid (w.heap.size ≤ (w.alloc (.cells #[.int .i64 k, .int .i64 a, .int .i64 g, .int .i64 y] 42)).heap.size) := by show _ ≤ _; omega
  clear h hA hr hsz
  go_enter Try.func62, Try.ntmps62
  obtain ⟨s0, s1, s2, s3⟩ := get4 HS.out
  by_cases k1 : k = 1
  · subst k1
    go_upto_region 2 with fail
    clear s0 s1 s2 s3
    generalize w.alloc (.cells #[.int .i64 1, .int .i64 a, .int .i64 g, .int .i64 y] 42) = wp at *
    replace HT : Hid (TS E wp.drew zt b B) := HT.out.blw (Blw.refl _).drew
    replace HS : Hid (Row wp.drew w.heap.size 4 (fun i => if i = 0 then .int .i64 1 else if i = 1 then .int .i64 a else if i = 2 then .int .i64 g else .int .i64 y)) := HS.out.blw (Blw.refl _).drew
    replace HB : Hid (Blw w wp.drew) := HB.out.drew
    have P0 : ∀ w', (Row w' zt 2 (fun i => if i = 0 then .slice b.a1 B.n b.c1 else .slice b.a2 B.D.n b.c2) ∧ Row w' w.heap.size 4 (fun i => if i = 0 then .int .i64 1 else if i = 1 then .int .i64 a else if i = 2 then .int .i64 g else .int .i64 y)) → w'.cell? ⟨zt, 0, none⟩ = some (.slice b.a1 B.n b.c1) ∧ w'.cell? ⟨zt, 1, none⟩ = some (.slice b.a2 B.D.n b.c2) := fun w' hh => get2 hh.1
    have P1 : ∀ w', (Row w' zt 2 (fun i => if i = 0 then .slice b.a1 B.n b.c1 else .slice b.a2 B.D.n b.c2) ∧ Row w' w.heap.size 4 (fun i => if i = 0 then .int .i64 1 else if i = 1 then .int .i64 a else if i = 2 then .int .i64 g else .int .i64 y)) → w'.cell? ⟨w.heap.size, 1, none⟩ = some (.int .i64 a) ∧ w'.cell? ⟨w.heap.size, 3, none⟩ = some (.int .i64 y) := fun w' hh => ⟨(get4 hh.2).2.1, (get4 hh.2).2.2.2⟩
    refine wp_region_noPanic ?_
    refine wp_region_held_drew (S := fun w' => Row w' zt 2 (fun i => if i = 0 then .slice b.a1 B.n b.c1 else .slice b.a2 B.D.n b.c2) ∧ Row w' w.heap.size 4 (fun i => if i = 0 then .int .i64 1 else if i = 1 then .int .i64 a else if i = 2 then .int .i64 g else .int .i64 y)) (by kernel_rfl) (And.intro HT.out.box HS.out) (fun hB => ?_)
    clear hB
    generalize wp.drew = wd at *
    refine wpAnyH_take (i := 0) (oi := { dst := some 12, op := Op.move (Operand.tmp 0), type := 100, pos := _, after := #[], guard := none }) (v := (.pointer (some ⟨zt, 0, none⟩))) rfl (by kernel_rfl) (by kernel_rfl) (by kernel_rfl) (fun _ _ _ h => h) (Or.inl ⟨by rfl, fun w' hS => by (try dsimp only at hS); go_simp⟩) (And.intro HT.out.box HS.out) ?_
    simp only [Act.put, List.setIfInBounds_toArray, List.set_cons_zero, List.set_cons_succ]
    refine wpAnyH_take (i := 3) (oi := { dst := some 15, op := Op.fieldAddr 42 (Operand.tmp 3) 1, type := 0, pos := _, after := #[], guard := none }) (v := (.pointer (some ⟨w.heap.size, 1, none⟩))) rfl (by kernel_rfl) (by kernel_rfl) (by kernel_rfl) (fun _ _ _ h => h) (Or.inl ⟨by rfl, fun w' hS => by (try dsimp only at hS); go_simp⟩) (And.intro HT.out.box HS.out) ?_
    simp only [Act.put, List.setIfInBounds_toArray, List.set_cons_zero, List.set_cons_succ]
    refine wpAnyH_take (i := 5) (oi := { dst := some 17, op := Op.fieldAddr 42 (Operand.tmp 3) 3, type := 0, pos := _, after := #[], guard := none }) (v := (.pointer (some ⟨w.heap.size, 3, none⟩))) rfl (by kernel_rfl) (by kernel_rfl) (by kernel_rfl) (fun _ _ _ h => h) (Or.inl ⟨by rfl, fun w' hS => by (try dsimp only at hS); go_simp⟩) (And.intro HT.out.box HS.out) ?_
    simp only [Act.put, List.setIfInBounds_toArray, List.set_cons_zero, List.set_cons_succ]
    refine wpAnyH_take (i := 1) (oi := { dst := some 13, op := Op.nilCheck (Operand.tmp 12), type := 0, pos := _, after := #[{ on := 0, ground := Ground.data }], guard := none }) (v := (.pointer (some ⟨zt, 0, none⟩))) rfl (by kernel_rfl) (by kernel_rfl) (by kernel_rfl) (fun _ _ _ h => h) (Or.inl ⟨by rfl, fun w' hS => by (try dsimp only at hS); go_simp⟩) (And.intro HT.out.box HS.out) ?_
    simp only [Act.put, List.setIfInBounds_toArray, List.set_cons_zero, List.set_cons_succ]
    refine wpAnyH_take (i := 4) (oi := { dst := some 16, op := Op.load 3 (Operand.tmp 15), type := 3, pos := _, after := #[{ on := 3, ground := Ground.data }], guard := none }) (v := (.int .i64 a)) rfl (by kernel_rfl) (by kernel_rfl) (by kernel_rfl) (fun _ _ _ h => h) (Or.inl ⟨by rfl, fun w' hS => by (try dsimp only at hS); go_simp⟩) (And.intro HT.out.box HS.out) ?_
    simp only [Act.put, List.setIfInBounds_toArray, List.set_cons_zero, List.set_cons_succ]
    refine wpAnyH_take (i := 6) (oi := { dst := some 18, op := Op.load 3 (Operand.tmp 17), type := 3, pos := _, after := #[{ on := 5, ground := Ground.data }], guard := none }) (v := (.int .i64 y)) rfl (by kernel_rfl) (by kernel_rfl) (by kernel_rfl) (fun _ _ _ h => h) (Or.inl ⟨by rfl, fun w' hS => by (try dsimp only at hS); go_simp⟩) (And.intro HT.out.box HS.out) ?_
    simp only [Act.put, List.setIfInBounds_toArray, List.set_cons_zero, List.set_cons_succ]
    refine wpAnyH_take (i := 2) (oi := { dst := some 14, op := Op.load 29 (Operand.tmp 13), type := 29, pos := _, after := #[{ on := 1, ground := Ground.data }], guard := none }) (v := (.agg #[.slice b.a1 B.n b.c1, .slice b.a2 B.D.n b.c2])) rfl (by kernel_rfl) (by kernel_rfl) (by kernel_rfl) (fun _ _ _ h => h) (Or.inl ⟨by rfl, fun w' hS => by (try dsimp only at hS); go_simp⟩) (And.intro HT.out.box HS.out) ?_
    simp only [Act.put, List.setIfInBounds_toArray, List.set_cons_zero, List.set_cons_succ]
    refine wpAnyH_ready (rs := [7]) (by kernel_rfl) (by simp) ?_
    refine AllReadyH.cons (o := { dst := some 19, op := Op.call { callee := Callee.value (Operand.func 25), args := #[Operand.tmp 14, Operand.tmp 16, Operand.tmp 18], argTypes := #[29, 3, 3] }, type := 49, pos := _, after := #[{ on := 2, ground := Ground.data }, { on := 4, ground := Ground.data }, { on := 6, ground := Ground.data }], guard := none }) rfl (fun K hK => ?_) AllReadyH.nil
    go_simp
    refine (implWalk_any b B a y _ _ HT.out.at_ (fun x hx => hx.2.1)).mono ?_
    rintro e wn ⟨x, yy, r, rfl, ho, hbk⟩
    have HO : Hid (wtOut B a y x yy r) := ho
    replace HT : Hid (TS E wn zt b B) := HT.out.blw hbk
    replace HS : Hid (Row wn w.heap.size 4 (fun i => if i = 0 then .int .i64 1 else if i = 1 then .int .i64 a else if i = 2 then .int .i64 g else .int .i64 y)) := HS.out.blw hbk
    replace HB : Hid (Blw w wn) := HB.out.trans hbk
    clear ho hbk
    refine hK.out _ _ (And.intro HT.out.box HS.out) (fun hB => ?_)
    clear hK K hB
    try simp only [Act.put, List.setIfInBounds_toArray, List.set_cons_zero, List.set_cons_succ]
    refine wpAnyH_take (i := 8) (oi := { dst := some 11, op := Op.move (Operand.tmp 19), type := 49, pos := _, after := #[{ on := 7, ground := Ground.data }], guard := none }) (v := (.tuple #[.int .i64 x, .int .i64 yy, .bool r])) rfl (by kernel_rfl) (by kernel_rfl) (by kernel_rfl) (fun _ _ _ h => h) (Or.inl ⟨by rfl, fun w' hS => by (try dsimp only at hS); go_simp⟩) (And.intro HT.out.box HS.out) ?_
    simp only [Act.put, List.setIfInBounds_toArray, List.set_cons_zero, List.set_cons_succ]
    refine wpAnyH_take (i := 9) (oi := { dst := some 20, op := Op.extract (Operand.tmp 11) 0, type := 3, pos := _, after := #[{ on := 8, ground := Ground.data }], guard := none }) (v := (.int .i64 x)) rfl (by kernel_rfl) (by kernel_rfl) (by kernel_rfl) (fun _ _ _ h => h) (Or.inl ⟨by rfl, fun w' hS => by (try dsimp only at hS); go_simp⟩) (And.intro HT.out.box HS.out) ?_
    simp only [Act.put, List.setIfInBounds_toArray, List.set_cons_zero, List.set_cons_succ]
    refine wpAnyH_take (i := 10) (oi := { dst := some 21, op := Op.extract (Operand.tmp 11) 1, type := 3, pos := _, after := #[{ on := 8, ground := Ground.data }, { on := 12, ground := Ground.gcOnly Departure.lateStores }], guard := none }) (v := (.int .i64 yy)) rfl (by kernel_rfl) (by kernel_rfl) (by kernel_rfl) (fun _ _ _ h => h) (Or.inl ⟨by rfl, fun w' hS => by (try dsimp only at hS); go_simp⟩) (And.intro HT.out.box HS.out) ?_
    simp only [Act.put, List.setIfInBounds_toArray, List.set_cons_zero, List.set_cons_succ]
    refine wpAnyH_take (i := 11) (oi := { dst := some 22, op := Op.extract (Operand.tmp 11) 2, type := 4, pos := _, after := #[{ on := 8, ground := Ground.data }, { on := 13, ground := Ground.gcOnly Departure.lateStores }], guard := none }) (v := (.bool r)) rfl (by kernel_rfl) (by kernel_rfl) (by kernel_rfl) (fun _ _ _ h => h) (Or.inl ⟨by rfl, fun w' hS => by (try dsimp only at hS); go_simp⟩) (And.intro HT.out.box HS.out) ?_
    simp only [Act.put, List.setIfInBounds_toArray, List.set_cons_zero, List.set_cons_succ]
    refine wpAnyH_take (i := 12) (oi := { dst := some 5, op := Op.assign (Operand.tmp 20), type := 3, pos := _, after := #[{ on := 9, ground := Ground.data }, { on := 7, ground := Ground.chain }, { on := 0, ground := Ground.phase }, { on := 1, ground := Ground.phase }, { on := 2, ground := Ground.phase }, { on := 3, ground := Ground.phase }, { on := 4, ground := Ground.phase }, { on := 5, ground := Ground.phase }, { on := 6, ground := Ground.phase }, { on := 7, ground := Ground.phase }, { on := 8, ground := Ground.phase }, { on := 9, ground := Ground.phase }, { on := 10, ground := Ground.textOnly Departure.lateStores }, { on := 11, ground := Ground.textOnly Departure.lateStores }], guard := none }) (v := (.int .i64 x)) rfl (by kernel_rfl) (by kernel_rfl) (by kernel_rfl) (fun _ _ _ h => h) (Or.inl ⟨by rfl, fun w' hS => by (try dsimp only at hS); go_simp⟩) (And.intro HT.out.box HS.out) ?_
    simp only [Act.put, List.setIfInBounds_toArray, List.set_cons_zero, List.set_cons_succ]
    refine wpAnyH_take (i := 13) (oi := { dst := some 6, op := Op.assign (Operand.tmp 21), type := 3, pos := _, after := #[{ on := 10, ground := Ground.data }, { on := 12, ground := Ground.chain }, { on := 0, ground := Ground.phase }, { on := 1, ground := Ground.phase }, { on := 2, ground := Ground.phase }, { on := 3, ground := Ground.phase }, { on := 4, ground := Ground.phase }, { on := 5, ground := Ground.phase }, { on := 6, ground := Ground.phase }, { on := 7, ground := Ground.phase }, { on := 8, ground := Ground.phase }, { on := 9, ground := Ground.phase }, { on := 10, ground := Ground.phase }, { on := 11, ground := Ground.textOnly Departure.lateStores }, { on := 12, ground := Ground.phase }], guard := none }) (v := (.int .i64 yy)) rfl (by kernel_rfl) (by kernel_rfl) (by kernel_rfl) (fun _ _ _ h => h) (Or.inl ⟨by rfl, fun w' hS => by (try dsimp only at hS); go_simp⟩) (And.intro HT.out.box HS.out) ?_
    simp only [Act.put, List.setIfInBounds_toArray, List.set_cons_zero, List.set_cons_succ]
    refine wpAnyH_take (i := 14) (oi := { dst := some 7, op := Op.assign (Operand.tmp 22), type := 4, pos := _, after := #[{ on := 11, ground := Ground.data }, { on := 13, ground := Ground.chain }, { on := 0, ground := Ground.phase }, { on := 1, ground := Ground.phase }, { on := 2, ground := Ground.phase }, { on := 3, ground := Ground.phase }, { on := 4, ground := Ground.phase }, { on := 5, ground := Ground.phase }, { on := 6, ground := Ground.phase }, { on := 7, ground := Ground.phase }, { on := 8, ground := Ground.phase }, { on := 9, ground := Ground.phase }, { on := 10, ground := Ground.phase }, { on := 11, ground := Ground.phase }, { on := 12, ground := Ground.phase }, { on := 13, ground := Ground.phase }], guard := none }) (v := (.bool r)) rfl (by kernel_rfl) (by kernel_rfl) (by kernel_rfl) (fun _ _ _ h => h) (Or.inl ⟨by rfl, fun w' hS => by (try dsimp only at hS); go_simp⟩) (And.intro HT.out.box HS.out) ?_
    simp only [Act.put, List.setIfInBounds_toArray, List.set_cons_zero, List.set_cons_succ]
    refine wpAnyH_done (by kernel_rfl) ?_ _
    refine NoPanic.normal ?_
    clear P0 P1 HS
    go_wp2_with fail
    refine (answerOf_any x r _ (wt_page HO.out)).mono ?_
    rintro e wn ⟨rfl, rfl⟩
    have FIN : Hid (∃ b' R v, Ending.returned (.int .i64 (if r = true then 1 + x else 0)) = .returned (.int .i64 v) ∧ PSO B 1 a g y R v ∧ TS E wn zt b' R ∧ Mod (fun x => x = zt) w wn) := ⟨b, B, _, rfl, Or.inl ⟨rfl, rfl, x, yy, r, HO.out, rfl⟩, HT.out, HB.out.mod _⟩
    generalize (if r = true then 1 + x else 0) = va at *
    clear HO HT HB
    go_wp2
    go_ret
    exact FIN.out
  · have d1 : (k == 1) = false := by simp [k1]
    have HK1 : Hid (¬ k = 1) := k1
    have HK : Hid (k = 2 ∨ k = 3 ∨ k = 4) := right_k HRI.out k1
    clear k1
    go_wp2_with fail
    clear s0 s1 s2 s3
    generalize w.alloc (.cells #[.int .i64 k, .int .i64 a, .int .i64 g, .int .i64 y] 42) = wp at *
    refine (changeT_any E zt b B k a g y _ HK.out (fun x hx => Nat.lt_of_lt_of_le (hE x hx) HSZ.out) HT.out).mono ?_
    rintro e w2 ⟨b2, R, r, rfl, ho, ht, hm⟩
    have HO : Hid (ctO B k a g y R r) := ho
    replace HT : Hid (TS E w2 zt b2 R) := ht
    have HM : Hid (Mod (fun x => x = zt) w w2) := (HB.out.mod _).trans hm
    clear ho ht hm HS HB HSZ
    go_wp2_with fail
    refine (answerOf_any 0 r _ (by omega)).mono ?_
    rintro e w2 ⟨rfl, rfl⟩
    have FIN : Hid (∃ b' R v, Ending.returned (.int .i64 (if r = true then 1 + 0 else 0)) = .returned (.int .i64 v) ∧ PSO B k a g y R v ∧ TS E w2 zt b' R ∧ Mod (fun x => x = zt) w w2) := ⟨b2, R, _, rfl, Or.inr ⟨HK1.out, r, HO.out, by cases r <;> rfl⟩, HT.out, HM.out⟩
    generalize (if r = true then (1 : Int) + 0 else 0) = va at *
    clear HO HT HM
    go_wp2
    go_ret
    exact FIN.out
set_option maxHeartbeats 1600000 in
theorem playP_any (E : Nat → Prop) (zt : Nat) (b : BV) (B : BD) (k a g y : Int) (w : World) (hr : rightS k a g y) (hE : ∀ x, E x → x < w.heap.size) (h : TS E w zt b B) :
    Calls Try.prog 61 #[.agg #[.int .i64 k, .int .i64 a, .int .i64 g, .int .i64 y], .pointer (some ⟨zt, 0, none⟩)] w fun e w' => ∃ b' R v, e = .returned (.int .i64 v) ∧ PSO B k a g y R v ∧ TS E w' zt b' R ∧ Mod (fun x => x = zt) w w' := by
  have hA : Blw w (w.alloc (.cells #[.int .i64 k, .int .i64 a, .int .i64 g, .int .i64 y] 42)) := (Blw.refl _).alloc _
  have HT : Hid (TS E (w.alloc (.cells #[.int .i64 k, .int .i64 a, .int .i64 g, .int .i64 y] 42)) zt b B) := h.blw hA
  have HS : Hid (Row (w.alloc (.cells #[.int .i64 k, .int .i64 a, .int .i64 g, .int .i64 y] 42)) w.heap.size 4 (fun i => if i = 0 then .int .i64 k else if i = 1 then .int .i64 a else if i = 2 then .int .i64 g else .int .i64 y)) := box4 w _ _ _ _ 42
  have HB : Hid (Blw w (w.alloc (.cells #[.int .i64 k, .int .i64 a, .int .i64 g, .int .i64 y] 42))) := hA
  have HSZ : Hid (w.heap.size ≤ (w.alloc (.cells #[.int .i64 k, .int .i64 a, .int .i64 g, .int .i64 y] 42)).heap.size) := by show _ ≤ _; simp
  clear h hA
  go_enter Try.func61, Try.ntmps61
  obtain ⟨s0, s1, s2, s3⟩ := get4 HS.out
  go_wp2_with fail
  clear s0 s1 s2 s3
  generalize w.alloc (.cells #[.int .i64 k, .int .i64 a, .int .i64 g, .int .i64 y] 42) = wp at *
  refine (stepT_any E zt b B k a g y _ hr (fun x hx => Nat.lt_of_lt_of_le (hE x hx) HSZ.out) HT.out).mono ?_
  rintro e w2 ⟨b2, R, v, rfl, ho, ht, hm⟩
  have FIN : Hid (∃ b' R' v', Ending.returned (.int .i64 v) = .returned (.int .i64 v') ∧ PSO B k a g y R' v' ∧ TS E w2 zt b' R' ∧ Mod (fun x => x = zt) w w2) := ⟨b2, R, v, rfl, ho, ht, (HB.out.mod _).trans hm⟩
  clear ho ht hm HS HB HT HSZ
  go_wp2
  go_ret
  exact FIN.out
set_option maxRecDepth 10000 in
set_option maxHeartbeats 1600000 in
theorem answerP_any (E : Nat → Prop) (zt zf : Nat) (b : BV) (B : BD) (k a g y : Int) (w : World) (hE : ∀ x, E x → x < w.heap.size) (h : TS E w zt b B) (hf : Row w zf 1 (fun _ => .func (.func 61) #[] #[.pointer (some ⟨zt, 0, none⟩)])) :
    Calls Try.prog 101 #[.agg #[.int .i64 k, .int .i64 a, .int .i64 g, .int .i64 y], .pointer (some ⟨zf, 0, none⟩)] w fun e w' => ∃ b' R v, e = .returned (.int .i64 v) ∧ PSF B k a g y R v ∧ TS E w' zt b' R ∧ Mod (fun x => x = zt) w w' := by
  have hA : Blw w (w.alloc (.cells #[.int .i64 k, .int .i64 a, .int .i64 g, .int .i64 y] 42)) := (Blw.refl _).alloc _
  have HT : Hid (TS E (w.alloc (.cells #[.int .i64 k, .int .i64 a, .int .i64 g, .int .i64 y] 42)) zt b B) := h.blw hA
  have HS : Hid (Row (w.alloc (.cells #[.int .i64 k, .int .i64 a, .int .i64 g, .int .i64 y] 42)) w.heap.size 4 (fun i => if i = 0 then .int .i64 k else if i = 1 then .int .i64 a else if i = 2 then .int .i64 g else .int .i64 y)) := box4 w _ _ _ _ 42
  have HF : Hid (Row (w.alloc (.cells #[.int .i64 k, .int .i64 a, .int .i64 g, .int .i64 y] 42)) zf 1 (fun _ => .func (.func 61) #[] #[.pointer (some ⟨zt, 0, none⟩)])) := hf.blw hA
  have HB : Hid (Blw w (w.alloc (.cells #[.int .i64 k, .int .i64 a, .int .i64 g, .int .i64 y] 42))) := hA
  have HSZ : Hid (w.heap.size ≤ (w.alloc (.cells #[.int .i64 k, .int .i64 a, .int .i64 g, .int .i64 y] 42)).heap.size) := by show _ ≤ _; simp
  clear h hA hf
  go_enter Try.func101, Try.ntmps101
  obtain ⟨s0, s1, s2, s3⟩ := get4 HS.out
  go_wp2_with fail
  clear s0 s1 s2 s3
  generalize w.alloc (.cells #[.int .i64 k, .int .i64 a, .int .i64 g, .int .i64 y] 42) = wp at *
  refine (isStep_any k a g y _).mono ?_
  rintro e w1 ⟨r, rfl, hr, hb1⟩
  have HR : Hid (r = true ↔ rightS k a g y) := hr
  replace HT : Hid (TS E w1 zt b B) := HT.out.blw hb1
  replace HS : Hid (Row w1 w.heap.size 4 (fun i => if i = 0 then .int .i64 k else if i = 1 then .int .i64 a else if i = 2 then .int .i64 g else .int .i64 y)) := HS.out.blw hb1
  replace HF : Hid (Row w1 zf 1 (fun _ => .func (.func 61) #[] #[.pointer (some ⟨zt, 0, none⟩)])) := HF.out.blw hb1
  replace HB : Hid (Blw w w1) := HB.out.trans hb1
  replace HSZ : Hid (w.heap.size ≤ w1.heap.size) := Nat.le_trans HSZ.out hb1.size
  clear hr hb1
  cases r
  · have HN : Hid (¬ rightS k a g y) := fun q => by have := HR.out.2 q; simp at this
    have FIN : Hid (∃ b' R' v', Ending.returned (.int .i64 (-1)) = .returned (.int .i64 v') ∧ PSF B k a g y R' v' ∧ TS E w1 zt b' R' ∧ Mod (fun x => x = zt) w w1) := ⟨b, B, -1, rfl, Or.inl ⟨HN.out, rfl, rfl⟩, HT.out, HB.out.mod _⟩
    clear HR HT HS HF HB HSZ HN
    go_wp2
    go_ret
    exact FIN.out
  have HY : Hid (rightS k a g y) := HR.out.1 (by first | rfl | trivial)
  clear HR
  obtain ⟨s0, s1, s2, s3⟩ := get4 HS.out
  have hfc := HF.out.cell (i := 0) (by omega)
  go_wp2_with fail
  clear s0 s1 s2 s3 hfc
  refine (playP_any E zt b B k a g y _ HY.out (fun x hx => Nat.lt_of_lt_of_le (hE x hx) HSZ.out) HT.out).mono ?_
  rintro e w2 ⟨b2, R, v, rfl, ho, ht, hm⟩
  have FIN : Hid (∃ b' R' v', Ending.returned (.int .i64 v) = .returned (.int .i64 v') ∧ PSF B k a g y R' v' ∧ TS E w2 zt b' R' ∧ Mod (fun x => x = zt) w w2) := ⟨b2, R, v, rfl, Or.inr ⟨HY.out, ho⟩, ht, (HB.out.mod _).trans hm⟩
  clear ho ht hm HS HB HT HSZ HF HY
  go_wp2
  go_ret
  exact FIN.out
end Go.Proofs.Ytkadjebncjcclaa
