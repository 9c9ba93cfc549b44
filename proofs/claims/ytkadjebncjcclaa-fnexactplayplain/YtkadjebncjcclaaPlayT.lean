/- A played table: the program's. -/
import Derived.Test.YtkadjebncjcclaaChgS
namespace Go.Proofs.Ytkadjebncjcclaa
open Go.RowKit
set_option linter.unusedSimpArgs false
set_option linter.unusedVariables false
/-- A table in a box at zt that is played; none of its blocks is of E. -/
structure TS (E : Nat → Prop) (wr : World) (zt : Nat) (b : BV) (B : BD) : Prop where
  box : Row wr zt 2 (fun i => if i = 0 then .slice b.a1 B.n b.c1 else .slice b.a2 B.D.n b.c2)
  at_ : BookAt (fun x => ¬ E x ∧ x < wr.heap.size ∧ x ≠ zt) wr b B
theorem TS.blw {E : Nat → Prop} {zt : Nat} {wr w' : World} {b : BV} {B : BD} (h : TS E wr zt b B) (hb : Blw wr w') : TS E w' zt b B :=
  ⟨h.box.blw hb, (h.at_.blw hb).mono (fun x hx => ⟨hx.1, Nat.lt_of_lt_of_le hx.2.1 hb.size, hx.2.2⟩)⟩
theorem TS.mod {Q E : Nat → Prop} {zt : Nat} {wr w' : World} {b : BV} {B : BD} (h : TS E wr zt b B) (hm : Mod Q wr w') (hz : ¬ Q zt) (hq : ∀ x, Q x → E x) : TS E w' zt b B :=
  ⟨h.box.mod hm hz, (h.at_.mod hm (fun x hx hh => hx.1 (hq x hh))).mono (fun x hx => ⟨hx.1, Nat.lt_of_lt_of_le hx.2.1 hm.size, hx.2.2⟩)⟩
theorem row2_set {w : World} {z : Nat} {u v a b : Value} (h : Row w z 2 (fun i => if i = 0 then u else v)) : Row ((w.setCell ⟨z, 0, none⟩ a).setCell ⟨z, 1, none⟩ b) z 2 (fun i => if i = 0 then a else b) :=
  ((h.set 0 _).set 1 _).congr (fun i hi => by
    match i, hi with
    | 0, _ => rfl
    | 1, _ => rfl)
/-- What a change gives: r, and the table behind it. -/
def ctO (B : BD) (k a g y : Int) (R : BD) (r : Bool) : Prop := ∃ R0, chgO B k a g y R0 r ∧ ((r = true ∧ R = R0) ∨ (r = false ∧ R = B))
theorem ctO_same {B : BD} {k a g y : Int} {R R' : BD} {r r' : Bool} (hk : k = 2 ∨ k = 3 ∨ k = 4) (h : ctO B k a g y R r) (h' : ctO B k a g y R' r') : R = R' ∧ r = r' := by
  obtain ⟨R0, h1, h2⟩ := h
  obtain ⟨R0', h1', h2'⟩ := h'
  obtain ⟨e1, e2⟩ := chgO_same hk h1 h1'
  subst e1 e2
  rcases h2 with ⟨e3, e4⟩ | ⟨e3, e4⟩ <;> rcases h2' with ⟨e5, e6⟩ | ⟨e5, e6⟩
  · exact ⟨e4.trans e6.symm, rfl⟩
  · rw [e3] at e5; cases e5
  · rw [e3] at e5; cases e5
  · exact ⟨e4.trans e6.symm, rfl⟩
theorem Mod.newer' {X Z : Nat → Prop} {a b c : World} (h : Mod X a b) (k : Mod Z b c) (hz : ∀ i, Z i → a.heap.size ≤ i) : Mod X a c :=
  ⟨k.os.trans h.os, k.tape.trans h.tape, k.output.trans h.output, Nat.le_trans h.size k.size, fun i hi hx => (k.block i (Nat.lt_of_lt_of_le hi h.size) (fun e => by have := hz i e; omega)).trans (h.block i hi hx)⟩
theorem ct_end {E : Nat → Prop} {zt zb : Nat} {w W : World} {b b3 : BV} {B R : BD} (hE : ∀ x, E x → x < w.heap.size) (ht : TS E W zt b B) (hz : Row W zb 2 (fun i => if i = 0 then .slice none 0 0 else .slice none 0 0)) (hb : w.heap.size < zb ∧ zt ≠ zb) (ho : BookOwn (fun x => w.heap.size < x ∧ x < W.heap.size ∧ x ≠ zb) W b3 R) (hm : Mod (fun x => x = zt) w W) (hzt : zt < w.heap.size) (hno : BookAt (fun x => (¬ E x ∧ x < W.heap.size ∧ x ≠ zt) ∧ x ≠ zb) W b B) :
    let W2 := (W.setCell ⟨zb, 0, none⟩ (.slice b3.a1 R.n b3.c1)).setCell ⟨zb, 1, none⟩ (.slice b3.a2 R.D.n b3.c2)
    let W3 := (W2.setCell ⟨zt, 0, none⟩ (.slice b3.a1 R.n b3.c1)).setCell ⟨zt, 1, none⟩ (.slice b3.a2 R.D.n b3.c2)
    TS E W2 zt b B ∧ Row W2 zb 2 (fun i => if i = 0 then .slice b3.a1 R.n b3.c1 else .slice b3.a2 R.D.n b3.c2) ∧ True ∧ Mod (fun x => x = zt) w W2 ∧ (TS E W3 zt b3 R ∧ Mod (fun x => x = zt) w W3) := by
  intro W2 W3
  have m2 : Mod (fun x => x = zb) W W2 := set2_mod (X := fun x => x = zb) W rfl _ _
  have m3 : Mod (fun x => x = zt) W2 W3 := set2_mod (X := fun x => x = zt) W2 rfl _ _
  have s2 := m2.size
  have s3 := m3.size
  have hM2 : Mod (fun x => x = zt) w W2 := hm.newer' m2 (fun i hi => by omega)
  refine ⟨⟨ht.box.mod m2 hb.2, (hno.mod m2 (fun x hx e => hx.2 e)).mono (fun x hx => ⟨hx.1.1, by omega, hx.1.2.2⟩)⟩, row2_set hz, trivial, hM2, ⟨row2_set (ht.box.mod m2 hb.2), ?_⟩, hM2.trans m3⟩
  exact ((ho.at.mod m2 (fun x hx e => hx.2.2 e)).mod m3 (fun x hx e => by omega)).mono (fun x hx => ⟨fun e => by have := hE x e; omega, by omega, by omega⟩)
set_option maxRecDepth 10000 in
set_option maxHeartbeats 6400000 in
theorem changeT_any (E : Nat → Prop) (zt : Nat) (b : BV) (B : BD) (k a g y : Int) (w : World) (hk : k = 2 ∨ k = 3 ∨ k = 4) (hE : ∀ x, E x → x < w.heap.size) (h : TS E w zt b B) :
    Calls Try.prog 103 #[.pointer (some ⟨zt, 0, none⟩), .agg #[.int .i64 k, .int .i64 a, .int .i64 g, .int .i64 y]] w fun e w' => ∃ b' R r, e = .returned (.bool r) ∧ ctO B k a g y R r ∧ TS E w' zt b' R ∧ Mod (fun x => x = zt) w w' := by
  have hA : Blw w (w.alloc (.cells #[.int .i64 k, .int .i64 a, .int .i64 g, .int .i64 y] 42)) := (Blw.refl _).alloc _
  have HT : Hid (TS E (w.alloc (.cells #[.int .i64 k, .int .i64 a, .int .i64 g, .int .i64 y] 42)) zt b B) := h.blw hA
  have HS : Hid (Row (w.alloc (.cells #[.int .i64 k, .int .i64 a, .int .i64 g, .int .i64 y] 42)) w.heap.size 4 (fun i => if i = 0 then .int .i64 k else if i = 1 then .int .i64 a else if i = 2 then .int .i64 g else .int .i64 y)) := box4 w _ _ _ _ 42
  have HM : Hid (Mod (fun x => x = zt) w (w.alloc (.cells #[.int .i64 k, .int .i64 a, .int .i64 g, .int .i64 y] 42))) := hA.mod _
  have hzt := h.box.lt
  clear h hA
  go_enter Try.func103, Try.ntmps103
  go_upto_region 1 with fail
  replace HT : Hid (TS E (w.alloc (.cells #[.int .i64 k, .int .i64 a, .int .i64 g, .int .i64 y] 42)).drew zt b B) := HT.out.blw (Blw.refl _).drew
  replace HS : Hid (Row (w.alloc (.cells #[.int .i64 k, .int .i64 a, .int .i64 g, .int .i64 y] 42)).drew w.heap.size 4 (fun i => if i = 0 then .int .i64 k else if i = 1 then .int .i64 a else if i = 2 then .int .i64 g else .int .i64 y)) := HS.out.blw (Blw.refl _).drew
  replace HM : Hid (Mod (fun x => x = zt) w (w.alloc (.cells #[.int .i64 k, .int .i64 a, .int .i64 g, .int .i64 y] 42)).drew) := HM.out.trans ((Blw.refl _).drew.mod _)
  have HSZ : Hid (w.heap.size + 1 = (w.alloc (.cells #[.int .i64 k, .int .i64 a, .int .i64 g, .int .i64 y] 42)).drew.heap.size) := by show _ = _; simp
  generalize w.alloc (.cells #[.int .i64 k, .int .i64 a, .int .i64 g, .int .i64 y] 42) = wp at *
  have P0 : ∀ w', (Row w' zt 2 (fun i => if i = 0 then .slice b.a1 B.n b.c1 else .slice b.a2 B.D.n b.c2) ∧ Row w' w.heap.size 4 (fun i => if i = 0 then .int .i64 k else if i = 1 then .int .i64 a else if i = 2 then .int .i64 g else .int .i64 y)) → w'.cell? ⟨zt, 0, none⟩ = some (.slice b.a1 B.n b.c1) ∧ w'.cell? ⟨zt, 1, none⟩ = some (.slice b.a2 B.D.n b.c2) := fun w' hh => get2 hh.1
  have P1 : ∀ w', (Row w' zt 2 (fun i => if i = 0 then .slice b.a1 B.n b.c1 else .slice b.a2 B.D.n b.c2) ∧ Row w' w.heap.size 4 (fun i => if i = 0 then .int .i64 k else if i = 1 then .int .i64 a else if i = 2 then .int .i64 g else .int .i64 y)) → w'.cell? ⟨w.heap.size, 0, none⟩ = some (.int .i64 k) ∧ w'.cell? ⟨w.heap.size, 1, none⟩ = some (.int .i64 a) ∧ w'.cell? ⟨w.heap.size, 2, none⟩ = some (.int .i64 g) ∧ w'.cell? ⟨w.heap.size, 3, none⟩ = some (.int .i64 y) := fun w' hh => get4 hh.2
  refine wp_region_noPanic ?_
  refine wp_region_held_drew (S := fun w' => Row w' zt 2 (fun i => if i = 0 then .slice b.a1 B.n b.c1 else .slice b.a2 B.D.n b.c2) ∧ Row w' w.heap.size 4 (fun i => if i = 0 then .int .i64 k else if i = 1 then .int .i64 a else if i = 2 then .int .i64 g else .int .i64 y)) (by kernel_rfl) (And.intro HT.out.box HS.out) (fun hB => ?_)
  clear hB
  generalize wp.drew = wd at *
  refine wpAnyH_take (i := 0) (oi := { dst := some 8, op := Op.move (Operand.tmp 0), type := 100, pos := _, after := #[], guard := none }) (v := (.pointer (some ⟨zt, 0, none⟩))) rfl (by kernel_rfl) (by kernel_rfl) (by kernel_rfl) (fun _ _ _ h => h) (Or.inl ⟨by rfl, fun w' hS => by (try dsimp only at hS); go_simp⟩) (And.intro HT.out.box HS.out) ?_
  simp only [Act.put, List.setIfInBounds_toArray, List.set_cons_zero, List.set_cons_succ]
  refine wpAnyH_take (i := 3) (oi := { dst := some 11, op := Op.load 42 (Operand.tmp 3), type := 42, pos := _, after := #[], guard := none }) (v := (.agg #[.int .i64 k, .int .i64 a, .int .i64 g, .int .i64 y])) rfl (by kernel_rfl) (by kernel_rfl) (by kernel_rfl) (fun _ _ _ h => h) (Or.inl ⟨by rfl, fun w' hS => by (try dsimp only at hS); go_simp⟩) (And.intro HT.out.box HS.out) ?_
  simp only [Act.put, List.setIfInBounds_toArray, List.set_cons_zero, List.set_cons_succ]
  refine wpAnyH_take (i := 1) (oi := { dst := some 9, op := Op.nilCheck (Operand.tmp 8), type := 0, pos := _, after := #[{ on := 0, ground := Ground.data }], guard := none }) (v := (.pointer (some ⟨zt, 0, none⟩))) rfl (by kernel_rfl) (by kernel_rfl) (by kernel_rfl) (fun _ _ _ h => h) (Or.inl ⟨by rfl, fun w' hS => by (try dsimp only at hS); go_simp⟩) (And.intro HT.out.box HS.out) ?_
  simp only [Act.put, List.setIfInBounds_toArray, List.set_cons_zero, List.set_cons_succ]
  refine wpAnyH_take (i := 2) (oi := { dst := some 10, op := Op.load 29 (Operand.tmp 9), type := 29, pos := _, after := #[{ on := 1, ground := Ground.data }], guard := none }) (v := (.agg #[.slice b.a1 B.n b.c1, .slice b.a2 B.D.n b.c2])) rfl (by kernel_rfl) (by kernel_rfl) (by kernel_rfl) (fun _ _ _ h => h) (Or.inl ⟨by rfl, fun w' hS => by (try dsimp only at hS); go_simp⟩) (And.intro HT.out.box HS.out) ?_
  simp only [Act.put, List.setIfInBounds_toArray, List.set_cons_zero, List.set_cons_succ]
  refine wpAnyH_ready (rs := [4, 8]) (by kernel_rfl) (by simp) ?_
  refine AllReadyH.cons (o := { dst := some 12, op := Op.call { callee := Callee.value (Operand.func 135), args := #[Operand.tmp 10, Operand.tmp 11], argTypes := #[29, 42] }, type := 91, pos := _, after := #[{ on := 2, ground := Ground.data }, { on := 3, ground := Ground.data }], guard := none }) rfl (fun K hK => ?_) (AllReadyH.cons (o := { dst := some 5, op := Op.alloc 29, type := 0, pos := _, after := #[], guard := none }) rfl (fun K hK => ?_) AllReadyH.nil)
  · go_simp
    refine (implChg_any b B k a g y _ _ (fun x hx => hx.2.1) hk HT.out.at_).mono ?_
    rintro e wn ⟨b3, R, r3, rfl, ho3, hs3, own3, hbk⟩
    have HO : Hid (chgO B k a g y R r3) := ho3
    have hsz := hbk.size
    have hzw := HSZ.out
    have HOW : Hid (BookOwn (fun x => w.heap.size < x ∧ x < wn.heap.size) wn b3 R) := own3.mono (fun x hx => ⟨by omega, hx.2⟩)
    replace HT : Hid (TS E wn zt b B) := HT.out.blw hbk
    replace HS : Hid (Row wn w.heap.size 4 (fun i => if i = 0 then .int .i64 k else if i = 1 then .int .i64 a else if i = 2 then .int .i64 g else .int .i64 y)) := HS.out.blw hbk
    replace HM : Hid (Mod (fun x => x = zt) w wn) := HM.out.trans (hbk.mod _)
    clear ho3 hs3 own3 hbk hsz hzw
    refine hK.out _ _ (And.intro HT.out.box HS.out) (fun hB => ?_)
    clear hK K hB
    try simp only [Act.put, List.setIfInBounds_toArray, List.set_cons_zero, List.set_cons_succ]
    refine wpAnyH_take (i := 5) (oi := { dst := some 7, op := Op.move (Operand.tmp 12), type := 91, pos := _, after := #[{ on := 4, ground := Ground.data }], guard := none }) (v := (.tuple #[b3.val R, .bool r3])) rfl (by kernel_rfl) (by kernel_rfl) (by kernel_rfl) (fun _ _ _ h => h) (Or.inl ⟨by rfl, fun w' hS => by (try dsimp only at hS); go_simp⟩) (And.intro HT.out.box HS.out) ?_
    simp only [Act.put, List.setIfInBounds_toArray, List.set_cons_zero, List.set_cons_succ]
    refine wpAnyH_take (i := 6) (oi := { dst := some 13, op := Op.extract (Operand.tmp 7) 0, type := 29, pos := _, after := #[{ on := 5, ground := Ground.data }], guard := none }) (v := (.agg #[.slice b3.a1 R.n b3.c1, .slice b3.a2 R.D.n b3.c2])) rfl (by kernel_rfl) (by kernel_rfl) (by kernel_rfl) (fun _ _ _ h => h) (Or.inl ⟨by rfl, fun w' hS => by (try dsimp only at hS); go_simp⟩) (And.intro HT.out.box HS.out) ?_
    simp only [Act.put, List.setIfInBounds_toArray, List.set_cons_zero, List.set_cons_succ]
    refine wpAnyH_take (i := 7) (oi := { dst := some 14, op := Op.extract (Operand.tmp 7) 1, type := 4, pos := _, after := #[{ on := 5, ground := Ground.data }, { on := 9, ground := Ground.gcOnly Departure.lateStores }], guard := none }) (v := (.bool r3)) rfl (by kernel_rfl) (by kernel_rfl) (by kernel_rfl) (fun _ _ _ h => h) (Or.inl ⟨by rfl, fun w' hS => by (try dsimp only at hS); go_simp⟩) (And.intro HT.out.box HS.out) ?_
    simp only [Act.put, List.setIfInBounds_toArray, List.set_cons_zero, List.set_cons_succ]
    refine wpAnyH_ready (rs := [8]) (by kernel_rfl) (by simp) ?_
    refine AllReadyH.cons (o := { dst := some 5, op := Op.alloc 29, type := 0, pos := _, after := #[], guard := none }) rfl (fun K hK => ?_) AllReadyH.nil
    go_simp
    have HZ : Hid (Row (wn.alloc (.cells #[.slice none 0 0, .slice none 0 0] 29)) wn.heap.size 2 (fun i => if i = 0 then .slice none 0 0 else .slice none 0 0)) := box2 wn _ _ 29
    have HZB : Hid (w.heap.size < wn.heap.size ∧ zt ≠ wn.heap.size) := by have := HT.out.box.lt; have := HS.out.lt; show _ ∧ _; omega
    have HNO : Hid (BookAt (fun x => (¬ E x ∧ x < (wn.alloc (.cells #[.slice none 0 0, .slice none 0 0] 29)).heap.size ∧ x ≠ zt) ∧ x ≠ wn.heap.size) (wn.alloc (.cells #[.slice none 0 0, .slice none 0 0] 29)) b B) := (HT.out.at_.blw ((Blw.refl _).alloc _)).mono (fun x hx => ⟨⟨hx.1, by rw [World.size_alloc]; omega, hx.2.2⟩, by omega⟩)
    replace HOW : Hid (BookOwn (fun x => w.heap.size < x ∧ x < (wn.alloc (.cells #[.slice none 0 0, .slice none 0 0] 29)).heap.size ∧ x ≠ wn.heap.size) (wn.alloc (.cells #[.slice none 0 0, .slice none 0 0] 29)) b3 R) := (HOW.out.blw ((Blw.refl _).alloc _)).mono (fun x hx => ⟨hx.1, by rw [World.size_alloc]; omega, by omega⟩)
    replace HT : Hid (TS E (wn.alloc (.cells #[.slice none 0 0, .slice none 0 0] 29)) zt b B) := HT.out.blw ((Blw.refl _).alloc _)
    replace HS : Hid (Row (wn.alloc (.cells #[.slice none 0 0, .slice none 0 0] 29)) w.heap.size 4 (fun i => if i = 0 then .int .i64 k else if i = 1 then .int .i64 a else if i = 2 then .int .i64 g else .int .i64 y)) := HS.out.blw ((Blw.refl _).alloc _)
    replace HM : Hid (Mod (fun x => x = zt) w (wn.alloc (.cells #[.slice none 0 0, .slice none 0 0] 29))) := HM.out.trans (((Blw.refl _).alloc _).mod _)
    refine hK.out _ _ (And.intro HT.out.box HS.out) (fun hB => ?_)
    clear hK K hB
    try simp only [Act.put, List.setIfInBounds_toArray, List.set_cons_zero, List.set_cons_succ]
    generalize wn.alloc (.cells #[.slice none 0 0, .slice none 0 0] 29) = wA at *
    generalize wn.heap.size = zb at *
    refine wpAnyH_ready (rs := [9]) (by kernel_rfl) (by simp) ?_
    refine AllReadyH.cons (o := { dst := none, op := Op.store 29 (Operand.tmp 5) (Operand.tmp 13), type := 0, pos := _, after := #[{ on := 8, ground := Ground.data }, { on := 6, ground := Ground.data }, { on := 4, ground := Ground.chain }, { on := 0, ground := Ground.phase }, { on := 1, ground := Ground.phase }, { on := 2, ground := Ground.phase }, { on := 3, ground := Ground.phase }, { on := 4, ground := Ground.phase }, { on := 5, ground := Ground.phase }, { on := 6, ground := Ground.phase }, { on := 7, ground := Ground.textOnly Departure.lateStores }, { on := 8, ground := Ground.phase }], guard := none }) rfl (fun K hK => ?_) AllReadyH.nil
    obtain ⟨z0, z1⟩ := get2 HZ.out
    have fz0 := HZ.out.frozen 0
    have fz1 := HZ.out.frozen 1
    obtain ⟨ft, fz, fa, fm, fend⟩ := ct_end hE HT.out HZ.out HZB.out HOW.out HM.out hzt HNO.out
    have hm2 := set2_mod (X := fun x => x = zb) wA rfl (.slice b3.a1 R.n b3.c1) (.slice b3.a2 R.D.n b3.c2)
    have hSt := And.intro ft.box (HS.out.mod hm2 (by have := HZB.out; omega))
    have FT : Hid (TS E _ zt b B) := ft
    have FZ : Hid (Row _ zb 2 (fun i => if i = 0 then .slice b3.a1 R.n b3.c1 else .slice b3.a2 R.D.n b3.c2)) := fz
    have FM : Hid (Mod (fun x => x = zt) w _) := fm
    have FE : Hid (TS E _ zt b3 R ∧ Mod (fun x => x = zt) w _) := fend
    clear ft fz fa fm fend hm2
    go_simp
    refine hK.out _ _ hSt (fun hB => ?_)
    clear hK K hB
    try simp only [Act.put, List.setIfInBounds_toArray, List.set_cons_zero, List.set_cons_succ]
    clear z0 z1 fz0 fz1
    refine wpAnyH_take (i := 10) (oi := { dst := some 6, op := Op.assign (Operand.tmp 14), type := 4, pos := _, after := #[{ on := 7, ground := Ground.data }, { on := 9, ground := Ground.chain }, { on := 0, ground := Ground.phase }, { on := 1, ground := Ground.phase }, { on := 2, ground := Ground.phase }, { on := 3, ground := Ground.phase }, { on := 4, ground := Ground.phase }, { on := 5, ground := Ground.phase }, { on := 6, ground := Ground.phase }, { on := 7, ground := Ground.phase }, { on := 8, ground := Ground.phase }, { on := 9, ground := Ground.phase }], guard := none }) (v := (.bool r3)) rfl (by kernel_rfl) (by kernel_rfl) (by kernel_rfl) (fun _ _ _ h => h) (Or.inl ⟨by rfl, fun w' hS => by (try dsimp only at hS); go_simp⟩) hSt ?_
    simp only [Act.put, List.setIfInBounds_toArray, List.set_cons_zero, List.set_cons_succ]
    refine wpAnyH_done (by kernel_rfl) ?_ _
    refine NoPanic.normal ?_
    clear hSt P0 P1 HT HS HM HZ HZB HOW HSZ HNO
    generalize ((wA.setCell ⟨zb, 0, none⟩ (.slice b3.a1 R.n b3.c1)).setCell ⟨zb, 1, none⟩ (.slice b3.a2 R.D.n b3.c2)) = W2 at *
    cases r3
    · have FIN : Hid (∃ b' R' r', Ending.returned (.bool false) = .returned (.bool r') ∧ ctO B k a g y R' r' ∧ TS E W2 zt b' R' ∧ Mod (fun x => x = zt) w W2) := ⟨b, B, false, rfl, ⟨R, HO.out, Or.inr ⟨rfl, rfl⟩⟩, FT.out, FM.out⟩
      clear HO FZ FT FM FE
      go_wp2
      go_ret
      exact FIN.out
    · obtain ⟨q0, q1⟩ := get2 FZ.out
      obtain ⟨t0, t1⟩ := get2 FT.out.box
      have f0 := FT.out.box.frozen 0
      have f1 := FT.out.box.frozen 1
      have FIN : Hid (∃ b' R' r', Ending.returned (.bool true) = .returned (.bool r') ∧ ctO B k a g y R' r' ∧ TS E ((W2.setCell ⟨zt, 0, none⟩ (.slice b3.a1 R.n b3.c1)).setCell ⟨zt, 1, none⟩ (.slice b3.a2 R.D.n b3.c2)) zt b' R' ∧ Mod (fun x => x = zt) w ((W2.setCell ⟨zt, 0, none⟩ (.slice b3.a1 R.n b3.c1)).setCell ⟨zt, 1, none⟩ (.slice b3.a2 R.D.n b3.c2))) := ⟨b3, R, true, rfl, ⟨R, HO.out, Or.inl ⟨rfl, rfl⟩⟩, FE.out.1, FE.out.2⟩
      clear HO FZ FT FM FE
      go_wp2
      refine bodyPost_ret (v := .bool true) (by simp [results, Try.results103, go_sem]) rfl FIN.out
  · go_simp
    have HZ : Hid (Row (wd.alloc (.cells #[.slice none 0 0, .slice none 0 0] 29)) wd.heap.size 2 (fun i => if i = 0 then .slice none 0 0 else .slice none 0 0)) := box2 wd _ _ 29
    have HZB : Hid (w.heap.size < wd.heap.size ∧ zt ≠ wd.heap.size) := by have := HT.out.box.lt; have := HS.out.lt; show _ ∧ _; omega
    have HNO : Hid (BookAt (fun x => (¬ E x ∧ x < (wd.alloc (.cells #[.slice none 0 0, .slice none 0 0] 29)).heap.size ∧ x ≠ zt) ∧ x ≠ wd.heap.size) (wd.alloc (.cells #[.slice none 0 0, .slice none 0 0] 29)) b B) := (HT.out.at_.blw ((Blw.refl _).alloc _)).mono (fun x hx => ⟨⟨hx.1, by rw [World.size_alloc]; omega, hx.2.2⟩, by omega⟩)
    replace HSZ : Hid (w.heap.size + 1 ≤ (wd.alloc (.cells #[.slice none 0 0, .slice none 0 0] 29)).heap.size) := by have := HSZ.out; show _ ≤ _; simp; omega
    replace HT : Hid (TS E (wd.alloc (.cells #[.slice none 0 0, .slice none 0 0] 29)) zt b B) := HT.out.blw ((Blw.refl _).alloc _)
    replace HS : Hid (Row (wd.alloc (.cells #[.slice none 0 0, .slice none 0 0] 29)) w.heap.size 4 (fun i => if i = 0 then .int .i64 k else if i = 1 then .int .i64 a else if i = 2 then .int .i64 g else .int .i64 y)) := HS.out.blw ((Blw.refl _).alloc _)
    replace HM : Hid (Mod (fun x => x = zt) w (wd.alloc (.cells #[.slice none 0 0, .slice none 0 0] 29))) := HM.out.trans (((Blw.refl _).alloc _).mod _)
    refine hK.out _ _ (And.intro HT.out.box HS.out) (fun hB => ?_)
    clear hK K hB
    try simp only [Act.put, List.setIfInBounds_toArray, List.set_cons_zero, List.set_cons_succ]
    generalize wd.alloc (.cells #[.slice none 0 0, .slice none 0 0] 29) = wA at *
    generalize wd.heap.size = zb at *
    refine wpAnyH_ready (rs := [4]) (by kernel_rfl) (by simp) ?_
    refine AllReadyH.cons (o := { dst := some 12, op := Op.call { callee := Callee.value (Operand.func 135), args := #[Operand.tmp 10, Operand.tmp 11], argTypes := #[29, 42] }, type := 91, pos := _, after := #[{ on := 2, ground := Ground.data }, { on := 3, ground := Ground.data }], guard := none }) rfl (fun K hK => ?_) AllReadyH.nil
    go_simp
    refine (implChg_any b B k a g y _ _ (fun x hx => hx.2.1) hk HT.out.at_).mono ?_
    rintro e wn ⟨b3, R, r3, rfl, ho3, hs3, own3, hbk⟩
    have HO : Hid (chgO B k a g y R r3) := ho3
    have hsz := hbk.size
    have hzw := HSZ.out
    have hzz := HZ.out.lt
    replace HNO : Hid (BookAt (fun x => (¬ E x ∧ x < wn.heap.size ∧ x ≠ zt) ∧ x ≠ zb) wn b B) := (HNO.out.blw hbk).mono (fun x hx => ⟨⟨hx.1.1, by omega, hx.1.2.2⟩, hx.2⟩)
    replace HZ : Hid (Row wn zb 2 (fun i => if i = 0 then .slice none 0 0 else .slice none 0 0)) := HZ.out.blw hbk
    have HOW : Hid (BookOwn (fun x => w.heap.size < x ∧ x < wn.heap.size ∧ x ≠ zb) wn b3 R) := own3.mono (fun x hx => ⟨by have := HZB.out; omega, hx.2, by omega⟩)
    replace HT : Hid (TS E wn zt b B) := HT.out.blw hbk
    replace HS : Hid (Row wn w.heap.size 4 (fun i => if i = 0 then .int .i64 k else if i = 1 then .int .i64 a else if i = 2 then .int .i64 g else .int .i64 y)) := HS.out.blw hbk
    replace HM : Hid (Mod (fun x => x = zt) w wn) := HM.out.trans (hbk.mod _)
    clear ho3 hs3 own3 hbk hsz hzw hzz
    refine hK.out _ _ (And.intro HT.out.box HS.out) (fun hB => ?_)
    clear hK K hB
    try simp only [Act.put, List.setIfInBounds_toArray, List.set_cons_zero, List.set_cons_succ]
    refine wpAnyH_take (i := 5) (oi := { dst := some 7, op := Op.move (Operand.tmp 12), type := 91, pos := _, after := #[{ on := 4, ground := Ground.data }], guard := none }) (v := (.tuple #[b3.val R, .bool r3])) rfl (by kernel_rfl) (by kernel_rfl) (by kernel_rfl) (fun _ _ _ h => h) (Or.inl ⟨by rfl, fun w' hS => by (try dsimp only at hS); go_simp⟩) (And.intro HT.out.box HS.out) ?_
    simp only [Act.put, List.setIfInBounds_toArray, List.set_cons_zero, List.set_cons_succ]
    refine wpAnyH_take (i := 6) (oi := { dst := some 13, op := Op.extract (Operand.tmp 7) 0, type := 29, pos := _, after := #[{ on := 5, ground := Ground.data }], guard := none }) (v := (.agg #[.slice b3.a1 R.n b3.c1, .slice b3.a2 R.D.n b3.c2])) rfl (by kernel_rfl) (by kernel_rfl) (by kernel_rfl) (fun _ _ _ h => h) (Or.inl ⟨by rfl, fun w' hS => by (try dsimp only at hS); go_simp⟩) (And.intro HT.out.box HS.out) ?_
    simp only [Act.put, List.setIfInBounds_toArray, List.set_cons_zero, List.set_cons_succ]
    refine wpAnyH_take (i := 7) (oi := { dst := some 14, op := Op.extract (Operand.tmp 7) 1, type := 4, pos := _, after := #[{ on := 5, ground := Ground.data }, { on := 9, ground := Ground.gcOnly Departure.lateStores }], guard := none }) (v := (.bool r3)) rfl (by kernel_rfl) (by kernel_rfl) (by kernel_rfl) (fun _ _ _ h => h) (Or.inl ⟨by rfl, fun w' hS => by (try dsimp only at hS); go_simp⟩) (And.intro HT.out.box HS.out) ?_
    simp only [Act.put, List.setIfInBounds_toArray, List.set_cons_zero, List.set_cons_succ]
    refine wpAnyH_ready (rs := [9]) (by kernel_rfl) (by simp) ?_
    refine AllReadyH.cons (o := { dst := none, op := Op.store 29 (Operand.tmp 5) (Operand.tmp 13), type := 0, pos := _, after := #[{ on := 8, ground := Ground.data }, { on := 6, ground := Ground.data }, { on := 4, ground := Ground.chain }, { on := 0, ground := Ground.phase }, { on := 1, ground := Ground.phase }, { on := 2, ground := Ground.phase }, { on := 3, ground := Ground.phase }, { on := 4, ground := Ground.phase }, { on := 5, ground := Ground.phase }, { on := 6, ground := Ground.phase }, { on := 7, ground := Ground.textOnly Departure.lateStores }, { on := 8, ground := Ground.phase }], guard := none }) rfl (fun K hK => ?_) AllReadyH.nil
    obtain ⟨z0, z1⟩ := get2 HZ.out
    have fz0 := HZ.out.frozen 0
    have fz1 := HZ.out.frozen 1
    obtain ⟨ft, fz, fa, fm, fend⟩ := ct_end hE HT.out HZ.out HZB.out HOW.out HM.out hzt HNO.out
    have hm2 := set2_mod (X := fun x => x = zb) wn rfl (.slice b3.a1 R.n b3.c1) (.slice b3.a2 R.D.n b3.c2)
    have hSt := And.intro ft.box (HS.out.mod hm2 (by have := HZB.out; omega))
    have FT : Hid (TS E _ zt b B) := ft
    have FZ : Hid (Row _ zb 2 (fun i => if i = 0 then .slice b3.a1 R.n b3.c1 else .slice b3.a2 R.D.n b3.c2)) := fz
    have FM : Hid (Mod (fun x => x = zt) w _) := fm
    have FE : Hid (TS E _ zt b3 R ∧ Mod (fun x => x = zt) w _) := fend
    clear ft fz fa fm fend hm2
    go_simp
    refine hK.out _ _ hSt (fun hB => ?_)
    clear hK K hB
    try simp only [Act.put, List.setIfInBounds_toArray, List.set_cons_zero, List.set_cons_succ]
    clear z0 z1 fz0 fz1
    refine wpAnyH_take (i := 10) (oi := { dst := some 6, op := Op.assign (Operand.tmp 14), type := 4, pos := _, after := #[{ on := 7, ground := Ground.data }, { on := 9, ground := Ground.chain }, { on := 0, ground := Ground.phase }, { on := 1, ground := Ground.phase }, { on := 2, ground := Ground.phase }, { on := 3, ground := Ground.phase }, { on := 4, ground := Ground.phase }, { on := 5, ground := Ground.phase }, { on := 6, ground := Ground.phase }, { on := 7, ground := Ground.phase }, { on := 8, ground := Ground.phase }, { on := 9, ground := Ground.phase }], guard := none }) (v := (.bool r3)) rfl (by kernel_rfl) (by kernel_rfl) (by kernel_rfl) (fun _ _ _ h => h) (Or.inl ⟨by rfl, fun w' hS => by (try dsimp only at hS); go_simp⟩) hSt ?_
    simp only [Act.put, List.setIfInBounds_toArray, List.set_cons_zero, List.set_cons_succ]
    refine wpAnyH_done (by kernel_rfl) ?_ _
    refine NoPanic.normal ?_
    clear hSt P0 P1 HT HS HM HZ HZB HOW HSZ HNO
    generalize ((wn.setCell ⟨zb, 0, none⟩ (.slice b3.a1 R.n b3.c1)).setCell ⟨zb, 1, none⟩ (.slice b3.a2 R.D.n b3.c2)) = W2 at *
    cases r3
    · have FIN : Hid (∃ b' R' r', Ending.returned (.bool false) = .returned (.bool r') ∧ ctO B k a g y R' r' ∧ TS E W2 zt b' R' ∧ Mod (fun x => x = zt) w W2) := ⟨b, B, false, rfl, ⟨R, HO.out, Or.inr ⟨rfl, rfl⟩⟩, FT.out, FM.out⟩
      clear HO FZ FT FM FE
      go_wp2
      go_ret
      exact FIN.out
    · obtain ⟨q0, q1⟩ := get2 FZ.out
      obtain ⟨t0, t1⟩ := get2 FT.out.box
      have f0 := FT.out.box.frozen 0
      have f1 := FT.out.box.frozen 1
      have FIN : Hid (∃ b' R' r', Ending.returned (.bool true) = .returned (.bool r') ∧ ctO B k a g y R' r' ∧ TS E ((W2.setCell ⟨zt, 0, none⟩ (.slice b3.a1 R.n b3.c1)).setCell ⟨zt, 1, none⟩ (.slice b3.a2 R.D.n b3.c2)) zt b' R' ∧ Mod (fun x => x = zt) w ((W2.setCell ⟨zt, 0, none⟩ (.slice b3.a1 R.n b3.c1)).setCell ⟨zt, 1, none⟩ (.slice b3.a2 R.D.n b3.c2))) := ⟨b3, R, true, rfl, ⟨R, HO.out, Or.inl ⟨rfl, rfl⟩⟩, FE.out.1, FE.out.2⟩
      clear HO FZ FT FM FE
      go_wp2
      refine bodyPost_ret (v := .bool true) (by simp [results, Try.results103, go_sem]) rfl FIN.out
end Go.Proofs.Ytkadjebncjcclaa
