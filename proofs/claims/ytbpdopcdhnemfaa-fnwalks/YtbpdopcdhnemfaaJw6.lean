/- Merged by program, in this order: PlayT, FactL, PlayP, Kp, Kt, Kk, Kq. -/
import Derived.ArgAppend
import Derived.Test.YtbpdopcdhnemfaaJw5
/- A played table: the program's. -/
namespace Go.Proofs.Ytbpdopcdhnemfaa
open Go.RowKit
set_option linter.unusedSimpArgs false
set_option linter.unusedVariables false
/-- A table in a box at zt that is played; none of its blocks is of E. -/
structure TS (E : Nat → Prop) (wr : World) (zt : Nat) (b : BV) (B : BD) : Prop where
  box : Row wr zt 2 (fun i => if i = 0 then .slice b.a1 B.n b.c1 else .slice b.a2 B.D.n b.c2)
  at_ : BookAt (fun x => ¬ E x ∧ x < wr.heap.size ∧ x ≠ zt) wr b B
theorem TS.blw {E : Nat → Prop} {zt : Nat} {wr w' : World} {b : BV} {B : BD} (h : TS E wr zt b B) (hb : Blw wr w') : TS E w' zt b B :=
  ⟨h.box.blw hb, (h.at_.blw hb).mono (fun x hx => ⟨hx.1, Nat.lt_of_lt_of_le hx.2.1 hb.size, hx.2.2⟩)⟩
theorem TS.mod {Q E : Nat → Prop} {zt : Nat} {wr w' : World} {b : BV} {B : BD} (h : TS E wr zt b B) (hm : Mod Q wr w') (hz : ¬ Q zt) (hq : ∀ x, Q x → E x) : TS E w' zt b B :=
  ⟨h.box.mod hm hz, (h.at_.mod hm (fun x hx hh => hx.1 (hq x hh))).mono (fun x hx => ⟨hx.1, Nat.lt_of_lt_of_le hx.2.1 hm.size, hx.2.2⟩)⟩
theorem row2_set {w : World} {z : Nat} {u v a b : Value} (h : Row w z 2 (fun i => if i = 0 then u else v)) : Row ((w.setCell ⟨z, 0, none⟩ a).setCell ⟨z, 1, none⟩ b) z 2 (fun i => if i = 0 then a else b) :=
  ((h.set 0 _).set 1 _).congr (fun i hi => by
    match i, hi with
    | 0, _ => rfl
    | 1, _ => rfl)
/-- What a change gives: r, and the table behind it. -/
def ctO (B : BD) (k a g y : Int) (R : BD) (r : Bool) : Prop := ∃ R0, chgO B k a g y R0 r ∧ ((r = true ∧ R = R0) ∨ (r = false ∧ R = B))
theorem ctO_same {B : BD} {k a g y : Int} {R R' : BD} {r r' : Bool} (hk : k = 2 ∨ k = 3 ∨ k = 4) (h : ctO B k a g y R r) (h' : ctO B k a g y R' r') : R = R' ∧ r = r' := by
  obtain ⟨R0, h1, h2⟩ := h
  obtain ⟨R0', h1', h2'⟩ := h'
  obtain ⟨e1, e2⟩ := chgO_same hk h1 h1'
  subst e1 e2
  rcases h2 with ⟨e3, e4⟩ | ⟨e3, e4⟩ <;> rcases h2' with ⟨e5, e6⟩ | ⟨e5, e6⟩
  · exact ⟨e4.trans e6.symm, rfl⟩
  · rw [e3] at e5; cases e5
  · rw [e3] at e5; cases e5
  · exact ⟨e4.trans e6.symm, rfl⟩
theorem Mod.newer' {X Z : Nat → Prop} {a b c : World} (h : Mod X a b) (k : Mod Z b c) (hz : ∀ i, Z i → a.heap.size ≤ i) : Mod X a c :=
  ⟨k.os.trans h.os, k.tape.trans h.tape, k.output.trans h.output, Nat.le_trans h.size k.size, fun i hi hx => (k.block i (Nat.lt_of_lt_of_le hi h.size) (fun e => by have := hz i e; omega)).trans (h.block i hi hx)⟩
theorem ct_end {E : Nat → Prop} {zt zb : Nat} {w W : World} {b b3 : BV} {B R : BD} (hE : ∀ x, E x → x < w.heap.size) (ht : TS E W zt b B) (hz : Row W zb 2 (fun i => if i = 0 then .slice none 0 0 else .slice none 0 0)) (hb : w.heap.size < zb ∧ zt ≠ zb) (ho : BookOwn (fun x => w.heap.size < x ∧ x < W.heap.size ∧ x ≠ zb) W b3 R) (hm : Mod (fun x => x = zt) w W) (hzt : zt < w.heap.size) (hno : BookAt (fun x => (¬ E x ∧ x < W.heap.size ∧ x ≠ zt) ∧ x ≠ zb) W b B) :
    let W2 := (W.setCell ⟨zb, 0, none⟩ (.slice b3.a1 R.n b3.c1)).setCell ⟨zb, 1, none⟩ (.slice b3.a2 R.D.n b3.c2)
    let W3 := (W2.setCell ⟨zt, 0, none⟩ (.slice b3.a1 R.n b3.c1)).setCell ⟨zt, 1, none⟩ (.slice b3.a2 R.D.n b3.c2)
    TS E W2 zt b B ∧ Row W2 zb 2 (fun i => if i = 0 then .slice b3.a1 R.n b3.c1 else .slice b3.a2 R.D.n b3.c2) ∧ True ∧ Mod (fun x => x = zt) w W2 ∧ (TS E W3 zt b3 R ∧ Mod (fun x => x = zt) w W3) := by
  intro W2 W3
  have m2 : Mod (fun x => x = zb) W W2 := set2_mod (X := fun x => x = zb) W rfl _ _
  have m3 : Mod (fun x => x = zt) W2 W3 := set2_mod (X := fun x => x = zt) W2 rfl _ _
  have s2 := m2.size
  have s3 := m3.size
  have hM2 : Mod (fun x => x = zt) w W2 := hm.newer' m2 (fun i hi => by omega)
  refine ⟨⟨ht.box.mod m2 hb.2, (hno.mod m2 (fun x hx e => hx.2 e)).mono (fun x hx => ⟨hx.1.1, by omega, hx.1.2.2⟩)⟩, row2_set hz, trivial, hM2, ⟨row2_set (ht.box.mod m2 hb.2), ?_⟩, hM2.trans m3⟩
  exact ((ho.at.mod m2 (fun x hx e => hx.2.2 e)).mod m3 (fun x hx e => by omega)).mono (fun x hx => ⟨fun e => by have := hE x e; omega, by omega, by omega⟩)
set_option maxRecDepth 10000 in
set_option maxHeartbeats 6400000 in
theorem changeT_any (E : Nat → Prop) (zt : Nat) (b : BV) (B : BD) (k a g y : Int) (w : World) (hk : k = 2 ∨ k = 3 ∨ k = 4) (hE : ∀ x, E x → x < w.heap.size) (h : TS E w zt b B) :
    Calls Try.prog 148 #[.pointer (some ⟨zt, 0, none⟩), .agg #[.int .i64 k, .int .i64 a, .int .i64 g, .int .i64 y]] w fun e w' => ∃ b' R r, e = .returned (.bool r) ∧ ctO B k a g y R r ∧ TS E w' zt b' R ∧ Mod (fun x => x = zt) w w' := by
  have hA : Blw w (w.alloc (.cells #[.int .i64 k, .int .i64 a, .int .i64 g, .int .i64 y] 42)) := (Blw.refl _).alloc _
  have HT : Hid (TS E (w.alloc (.cells #[.int .i64 k, .int .i64 a, .int .i64 g, .int .i64 y] 42)) zt b B) := h.blw hA
  have HS : Hid (Row (w.alloc (.cells #[.int .i64 k, .int .i64 a, .int .i64 g, .int .i64 y] 42)) w.heap.size 4 (fun i => if i = 0 then .int .i64 k else if i = 1 then .int .i64 a else if i = 2 then .int .i64 g else .int .i64 y)) := box4 w _ _ _ _ 42
  have HM : Hid (Mod (fun x => x = zt) w (w.alloc (.cells #[.int .i64 k, .int .i64 a, .int .i64 g, .int .i64 y] 42))) := hA.mod _
  have hzt := h.box.lt
  clear h hA
  go_enter Try.func148, Try.ntmps148
  go_upto_region 1 with fail
  replace HT : Hid (TS E (w.alloc (.cells #[.int .i64 k, .int .i64 a, .int .i64 g, .int .i64 y] 42)).drew zt b B) := HT.out.blw (Blw.refl _).drew
  replace HS : Hid (Row (w.alloc (.cells #[.int .i64 k, .int .i64 a, .int .i64 g, .int .i64 y] 42)).drew w.heap.size 4 (fun i => if i = 0 then .int .i64 k else if i = 1 then .int .i64 a else if i = 2 then .int .i64 g else .int .i64 y)) := HS.out.blw (Blw.refl _).drew
  replace HM : Hid (Mod (fun x => x = zt) w (w.alloc (.cells #[.int .i64 k, .int .i64 a, .int .i64 g, .int .i64 y] 42)).drew) := HM.out.trans ((Blw.refl _).drew.mod _)
  have HSZ : Hid (w.heap.size + 1 = (w.alloc (.cells #[.int .i64 k, .int .i64 a, .int .i64 g, .int .i64 y] 42)).drew.heap.size) := by show _ = _; simp
  generalize w.alloc (.cells #[.int .i64 k, .int .i64 a, .int .i64 g, .int .i64 y] 42) = wp at *
  have P0 : ∀ w', (Row w' zt 2 (fun i => if i = 0 then .slice b.a1 B.n b.c1 else .slice b.a2 B.D.n b.c2) ∧ Row w' w.heap.size 4 (fun i => if i = 0 then .int .i64 k else if i = 1 then .int .i64 a else if i = 2 then .int .i64 g else .int .i64 y)) → w'.cell? ⟨zt, 0, none⟩ = some (.slice b.a1 B.n b.c1) ∧ w'.cell? ⟨zt, 1, none⟩ = some (.slice b.a2 B.D.n b.c2) := fun w' hh => get2 hh.1
  have P1 : ∀ w', (Row w' zt 2 (fun i => if i = 0 then .slice b.a1 B.n b.c1 else .slice b.a2 B.D.n b.c2) ∧ Row w' w.heap.size 4 (fun i => if i = 0 then .int .i64 k else if i = 1 then .int .i64 a else if i = 2 then .int .i64 g else .int .i64 y)) → w'.cell? ⟨w.heap.size, 0, none⟩ = some (.int .i64 k) ∧ w'.cell? ⟨w.heap.size, 1, none⟩ = some (.int .i64 a) ∧ w'.cell? ⟨w.heap.size, 2, none⟩ = some (.int .i64 g) ∧ w'.cell? ⟨w.heap.size, 3, none⟩ = some (.int .i64 y) := fun w' hh => get4 hh.2
  refine wp_region_noPanic ?_
  refine wp_region_held_drew (S := fun w' => Row w' zt 2 (fun i => if i = 0 then .slice b.a1 B.n b.c1 else .slice b.a2 B.D.n b.c2) ∧ Row w' w.heap.size 4 (fun i => if i = 0 then .int .i64 k else if i = 1 then .int .i64 a else if i = 2 then .int .i64 g else .int .i64 y)) (by kernel_rfl) (And.intro HT.out.box HS.out) (fun hB => ?_)
  clear hB
  generalize wp.drew = wd at *
  refine wpAnyH_take (i := 0) (oi := { dst := some 8, op := Op.move (Operand.tmp 0), type := 120, pos := _, after := #[], guard := none }) (v := (.pointer (some ⟨zt, 0, none⟩))) rfl (by kernel_rfl) (by kernel_rfl) (by kernel_rfl) (fun _ _ _ h => h) (Or.inl ⟨by rfl, fun w' hS => by (try dsimp only at hS); go_simp⟩) (And.intro HT.out.box HS.out) ?_
  simp only [Act.put, List.setIfInBounds_toArray, List.set_cons_zero, List.set_cons_succ]
  refine wpAnyH_take (i := 3) (oi := { dst := some 11, op := Op.load 42 (Operand.tmp 3), type := 42, pos := _, after := #[], guard := none }) (v := (.agg #[.int .i64 k, .int .i64 a, .int .i64 g, .int .i64 y])) rfl (by kernel_rfl) (by kernel_rfl) (by kernel_rfl) (fun _ _ _ h => h) (Or.inl ⟨by rfl, fun w' hS => by (try dsimp only at hS); go_simp⟩) (And.intro HT.out.box HS.out) ?_
  simp only [Act.put, List.setIfInBounds_toArray, List.set_cons_zero, List.set_cons_succ]
  refine wpAnyH_take (i := 1) (oi := { dst := some 9, op := Op.nilCheck (Operand.tmp 8), type := 0, pos := _, after := #[{ on := 0, ground := Ground.data }], guard := none }) (v := (.pointer (some ⟨zt, 0, none⟩))) rfl (by kernel_rfl) (by kernel_rfl) (by kernel_rfl) (fun _ _ _ h => h) (Or.inl ⟨by rfl, fun w' hS => by (try dsimp only at hS); go_simp⟩) (And.intro HT.out.box HS.out) ?_
  simp only [Act.put, List.setIfInBounds_toArray, List.set_cons_zero, List.set_cons_succ]
  refine wpAnyH_take (i := 2) (oi := { dst := some 10, op := Op.load 29 (Operand.tmp 9), type := 29, pos := _, after := #[{ on := 1, ground := Ground.data }], guard := none }) (v := (.agg #[.slice b.a1 B.n b.c1, .slice b.a2 B.D.n b.c2])) rfl (by kernel_rfl) (by kernel_rfl) (by kernel_rfl) (fun _ _ _ h => h) (Or.inl ⟨by rfl, fun w' hS => by (try dsimp only at hS); go_simp⟩) (And.intro HT.out.box HS.out) ?_
  simp only [Act.put, List.setIfInBounds_toArray, List.set_cons_zero, List.set_cons_succ]
  refine wpAnyH_ready (rs := [4, 8]) (by kernel_rfl) (by simp) ?_
  refine AllReadyH.cons (o := { dst := some 12, op := Op.call { callee := Callee.value (Operand.func 187), args := #[Operand.tmp 10, Operand.tmp 11], argTypes := #[29, 42] }, type := 111, pos := _, after := #[{ on := 2, ground := Ground.data }, { on := 3, ground := Ground.data }], guard := none }) rfl (fun K hK => ?_) (AllReadyH.cons (o := { dst := some 5, op := Op.alloc 29, type := 0, pos := _, after := #[], guard := none }) rfl (fun K hK => ?_) AllReadyH.nil)
  · go_simp
    refine (implChg_any b B k a g y _ _ (fun x hx => hx.2.1) hk HT.out.at_).mono ?_
    rintro e wn ⟨b3, R, r3, rfl, ho3, hs3, own3, hbk⟩
    have HO : Hid (chgO B k a g y R r3) := ho3
    have hsz := hbk.size
    have hzw := HSZ.out
    have HOW : Hid (BookOwn (fun x => w.heap.size < x ∧ x < wn.heap.size) wn b3 R) := own3.mono (fun x hx => ⟨by omega, hx.2⟩)
    replace HT : Hid (TS E wn zt b B) := HT.out.blw hbk
    replace HS : Hid (Row wn w.heap.size 4 (fun i => if i = 0 then .int .i64 k else if i = 1 then .int .i64 a else if i = 2 then .int .i64 g else .int .i64 y)) := HS.out.blw hbk
    replace HM : Hid (Mod (fun x => x = zt) w wn) := HM.out.trans (hbk.mod _)
    clear ho3 hs3 own3 hbk hsz hzw
    refine hK.out _ _ (And.intro HT.out.box HS.out) (fun hB => ?_)
    clear hK K hB
    try simp only [Act.put, List.setIfInBounds_toArray, List.set_cons_zero, List.set_cons_succ]
    refine wpAnyH_take (i := 5) (oi := { dst := some 7, op := Op.move (Operand.tmp 12), type := 111, pos := _, after := #[{ on := 4, ground := Ground.data }], guard := none }) (v := (.tuple #[b3.val R, .bool r3])) rfl (by kernel_rfl) (by kernel_rfl) (by kernel_rfl) (fun _ _ _ h => h) (Or.inl ⟨by rfl, fun w' hS => by (try dsimp only at hS); go_simp⟩) (And.intro HT.out.box HS.out) ?_
    simp only [Act.put, List.setIfInBounds_toArray, List.set_cons_zero, List.set_cons_succ]
    refine wpAnyH_take (i := 6) (oi := { dst := some 13, op := Op.extract (Operand.tmp 7) 0, type := 29, pos := _, after := #[{ on := 5, ground := Ground.data }], guard := none }) (v := (.agg #[.slice b3.a1 R.n b3.c1, .slice b3.a2 R.D.n b3.c2])) rfl (by kernel_rfl) (by kernel_rfl) (by kernel_rfl) (fun _ _ _ h => h) (Or.inl ⟨by rfl, fun w' hS => by (try dsimp only at hS); go_simp⟩) (And.intro HT.out.box HS.out) ?_
    simp only [Act.put, List.setIfInBounds_toArray, List.set_cons_zero, List.set_cons_succ]
    refine wpAnyH_take (i := 7) (oi := { dst := some 14, op := Op.extract (Operand.tmp 7) 1, type := 4, pos := _, after := #[{ on := 5, ground := Ground.data }, { on := 9, ground := Ground.gcOnly Departure.lateStores }], guard := none }) (v := (.bool r3)) rfl (by kernel_rfl) (by kernel_rfl) (by kernel_rfl) (fun _ _ _ h => h) (Or.inl ⟨by rfl, fun w' hS => by (try dsimp only at hS); go_simp⟩) (And.intro HT.out.box HS.out) ?_
    simp only [Act.put, List.setIfInBounds_toArray, List.set_cons_zero, List.set_cons_succ]
    refine wpAnyH_ready (rs := [8]) (by kernel_rfl) (by simp) ?_
    refine AllReadyH.cons (o := { dst := some 5, op := Op.alloc 29, type := 0, pos := _, after := #[], guard := none }) rfl (fun K hK => ?_) AllReadyH.nil
    go_simp
    have HZ : Hid (Row (wn.alloc (.cells #[.slice none 0 0, .slice none 0 0] 29)) wn.heap.size 2 (fun i => if i = 0 then .slice none 0 0 else .slice none 0 0)) := box2 wn _ _ 29
    have HZB : Hid (w.heap.size < wn.heap.size ∧ zt ≠ wn.heap.size) := by have := HT.out.box.lt; have := HS.out.lt; show _ ∧ _; omega
    have HNO : Hid (BookAt (fun x => (¬ E x ∧ x < (wn.alloc (.cells #[.slice none 0 0, .slice none 0 0] 29)).heap.size ∧ x ≠ zt) ∧ x ≠ wn.heap.size) (wn.alloc (.cells #[.slice none 0 0, .slice none 0 0] 29)) b B) := (HT.out.at_.blw ((Blw.refl _).alloc _)).mono (fun x hx => ⟨⟨hx.1, by rw [World.size_alloc]; omega, hx.2.2⟩, by omega⟩)
    replace HOW : Hid (BookOwn (fun x => w.heap.size < x ∧ x < (wn.alloc (.cells #[.slice none 0 0, .slice none 0 0] 29)).heap.size ∧ x ≠ wn.heap.size) (wn.alloc (.cells #[.slice none 0 0, .slice none 0 0] 29)) b3 R) := (HOW.out.blw ((Blw.refl _).alloc _)).mono (fun x hx => ⟨hx.1, by rw [World.size_alloc]; omega, by omega⟩)
    replace HT : Hid (TS E (wn.alloc (.cells #[.slice none 0 0, .slice none 0 0] 29)) zt b B) := HT.out.blw ((Blw.refl _).alloc _)
    replace HS : Hid (Row (wn.alloc (.cells #[.slice none 0 0, .slice none 0 0] 29)) w.heap.size 4 (fun i => if i = 0 then .int .i64 k else if i = 1 then .int .i64 a else if i = 2 then .int .i64 g else .int .i64 y)) := HS.out.blw ((Blw.refl _).alloc _)
    replace HM : Hid (Mod (fun x => x = zt) w (wn.alloc (.cells #[.slice none 0 0, .slice none 0 0] 29))) := HM.out.trans (((Blw.refl _).alloc _).mod _)
    refine hK.out _ _ (And.intro HT.out.box HS.out) (fun hB => ?_)
    clear hK K hB
    try simp only [Act.put, List.setIfInBounds_toArray, List.set_cons_zero, List.set_cons_succ]
    generalize wn.alloc (.cells #[.slice none 0 0, .slice none 0 0] 29) = wA at *
    generalize wn.heap.size = zb at *
    refine wpAnyH_ready (rs := [9]) (by kernel_rfl) (by simp) ?_
    refine AllReadyH.cons (o := { dst := none, op := Op.store 29 (Operand.tmp 5) (Operand.tmp 13), type := 0, pos := _, after := #[{ on := 8, ground := Ground.data }, { on := 6, ground := Ground.data }, { on := 4, ground := Ground.chain }, { on := 0, ground := Ground.phase }, { on := 1, ground := Ground.phase }, { on := 2, ground := Ground.phase }, { on := 3, ground := Ground.phase }, { on := 4, ground := Ground.phase }, { on := 5, ground := Ground.phase }, { on := 6, ground := Ground.phase }, { on := 7, ground := Ground.textOnly Departure.lateStores }, { on := 8, ground := Ground.phase }], guard := none }) rfl (fun K hK => ?_) AllReadyH.nil
    obtain ⟨z0, z1⟩ := get2 HZ.out
    have fz0 := HZ.out.frozen 0
    have fz1 := HZ.out.frozen 1
    obtain ⟨ft, fz, fa, fm, fend⟩ := ct_end hE HT.out HZ.out HZB.out HOW.out HM.out hzt HNO.out
    have hm2 := set2_mod (X := fun x => x = zb) wA rfl (.slice b3.a1 R.n b3.c1) (.slice b3.a2 R.D.n b3.c2)
    have hSt := And.intro ft.box (HS.out.mod hm2 (by have := HZB.out; omega))
    have FT : Hid (TS E _ zt b B) := ft
    have FZ : Hid (Row _ zb 2 (fun i => if i = 0 then .slice b3.a1 R.n b3.c1 else .slice b3.a2 R.D.n b3.c2)) := fz
    have FM : Hid (Mod (fun x => x = zt) w _) := fm
    have FE : Hid (TS E _ zt b3 R ∧ Mod (fun x => x = zt) w _) := fend
    clear ft fz fa fm fend hm2
    go_simp
    refine hK.out _ _ hSt (fun hB => ?_)
    clear hK K hB
    try simp only [Act.put, List.setIfInBounds_toArray, List.set_cons_zero, List.set_cons_succ]
    clear z0 z1 fz0 fz1
    refine wpAnyH_take (i := 10) (oi := { dst := some 6, op := Op.assign (Operand.tmp 14), type := 4, pos := _, after := #[{ on := 7, ground := Ground.data }, { on := 9, ground := Ground.chain }, { on := 0, ground := Ground.phase }, { on := 1, ground := Ground.phase }, { on := 2, ground := Ground.phase }, { on := 3, ground := Ground.phase }, { on := 4, ground := Ground.phase }, { on := 5, ground := Ground.phase }, { on := 6, ground := Ground.phase }, { on := 7, ground := Ground.phase }, { on := 8, ground := Ground.phase }, { on := 9, ground := Ground.phase }], guard := none }) (v := (.bool r3)) rfl (by kernel_rfl) (by kernel_rfl) (by kernel_rfl) (fun _ _ _ h => h) (Or.inl ⟨by rfl, fun w' hS => by (try dsimp only at hS); go_simp⟩) hSt ?_
    simp only [Act.put, List.setIfInBounds_toArray, List.set_cons_zero, List.set_cons_succ]
    refine wpAnyH_done (by kernel_rfl) ?_ _
    refine NoPanic.normal ?_
    clear hSt P0 P1 HT HS HM HZ HZB HOW HSZ HNO
    generalize ((wA.setCell ⟨zb, 0, none⟩ (.slice b3.a1 R.n b3.c1)).setCell ⟨zb, 1, none⟩ (.slice b3.a2 R.D.n b3.c2)) = W2 at *
    cases r3
    · have FIN : Hid (∃ b' R' r', Ending.returned (.bool false) = .returned (.bool r') ∧ ctO B k a g y R' r' ∧ TS E W2 zt b' R' ∧ Mod (fun x => x = zt) w W2) := ⟨b, B, false, rfl, ⟨R, HO.out, Or.inr ⟨rfl, rfl⟩⟩, FT.out, FM.out⟩
      clear HO FZ FT FM FE
      go_wp2
      go_ret
      exact FIN.out
    · obtain ⟨q0, q1⟩ := get2 FZ.out
      obtain ⟨t0, t1⟩ := get2 FT.out.box
      have f0 := FT.out.box.frozen 0
      have f1 := FT.out.box.frozen 1
      have FIN : Hid (∃ b' R' r', Ending.returned (.bool true) = .returned (.bool r') ∧ ctO B k a g y R' r' ∧ TS E ((W2.setCell ⟨zt, 0, none⟩ (.slice b3.a1 R.n b3.c1)).setCell ⟨zt, 1, none⟩ (.slice b3.a2 R.D.n b3.c2)) zt b' R' ∧ Mod (fun x => x = zt) w ((W2.setCell ⟨zt, 0, none⟩ (.slice b3.a1 R.n b3.c1)).setCell ⟨zt, 1, none⟩ (.slice b3.a2 R.D.n b3.c2))) := ⟨b3, R, true, rfl, ⟨R, HO.out, Or.inl ⟨rfl, rfl⟩⟩, FE.out.1, FE.out.2⟩
      clear HO FZ FT FM FE
      go_wp2
      refine bodyPost_ret (v := .bool true) (by simp [results, Try.results148, go_sem]) rfl FIN.out
  · go_simp
    have HZ : Hid (Row (wd.alloc (.cells #[.slice none 0 0, .slice none 0 0] 29)) wd.heap.size 2 (fun i => if i = 0 then .slice none 0 0 else .slice none 0 0)) := box2 wd _ _ 29
    have HZB : Hid (w.heap.size < wd.heap.size ∧ zt ≠ wd.heap.size) := by have := HT.out.box.lt; have := HS.out.lt; show _ ∧ _; omega
    have HNO : Hid (BookAt (fun x => (¬ E x ∧ x < (wd.alloc (.cells #[.slice none 0 0, .slice none 0 0] 29)).heap.size ∧ x ≠ zt) ∧ x ≠ wd.heap.size) (wd.alloc (.cells #[.slice none 0 0, .slice none 0 0] 29)) b B) := (HT.out.at_.blw ((Blw.refl _).alloc _)).mono (fun x hx => ⟨⟨hx.1, by rw [World.size_alloc]; omega, hx.2.2⟩, by omega⟩)
    replace HSZ : Hid (w.heap.size + 1 ≤ (wd.alloc (.cells #[.slice none 0 0, .slice none 0 0] 29)).heap.size) := by have := HSZ.out; show _ ≤ _; simp; omega
    replace HT : Hid (TS E (wd.alloc (.cells #[.slice none 0 0, .slice none 0 0] 29)) zt b B) := HT.out.blw ((Blw.refl _).alloc _)
    replace HS : Hid (Row (wd.alloc (.cells #[.slice none 0 0, .slice none 0 0] 29)) w.heap.size 4 (fun i => if i = 0 then .int .i64 k else if i = 1 then .int .i64 a else if i = 2 then .int .i64 g else .int .i64 y)) := HS.out.blw ((Blw.refl _).alloc _)
    replace HM : Hid (Mod (fun x => x = zt) w (wd.alloc (.cells #[.slice none 0 0, .slice none 0 0] 29))) := HM.out.trans (((Blw.refl _).alloc _).mod _)
    refine hK.out _ _ (And.intro HT.out.box HS.out) (fun hB => ?_)
    clear hK K hB
    try simp only [Act.put, List.setIfInBounds_toArray, List.set_cons_zero, List.set_cons_succ]
    generalize wd.alloc (.cells #[.slice none 0 0, .slice none 0 0] 29) = wA at *
    generalize wd.heap.size = zb at *
    refine wpAnyH_ready (rs := [4]) (by kernel_rfl) (by simp) ?_
    refine AllReadyH.cons (o := { dst := some 12, op := Op.call { callee := Callee.value (Operand.func 187), args := #[Operand.tmp 10, Operand.tmp 11], argTypes := #[29, 42] }, type := 111, pos := _, after := #[{ on := 2, ground := Ground.data }, { on := 3, ground := Ground.data }], guard := none }) rfl (fun K hK => ?_) AllReadyH.nil
    go_simp
    refine (implChg_any b B k a g y _ _ (fun x hx => hx.2.1) hk HT.out.at_).mono ?_
    rintro e wn ⟨b3, R, r3, rfl, ho3, hs3, own3, hbk⟩
    have HO : Hid (chgO B k a g y R r3) := ho3
    have hsz := hbk.size
    have hzw := HSZ.out
    have hzz := HZ.out.lt
    replace HNO : Hid (BookAt (fun x => (¬ E x ∧ x < wn.heap.size ∧ x ≠ zt) ∧ x ≠ zb) wn b B) := (HNO.out.blw hbk).mono (fun x hx => ⟨⟨hx.1.1, by omega, hx.1.2.2⟩, hx.2⟩)
    replace HZ : Hid (Row wn zb 2 (fun i => if i = 0 then .slice none 0 0 else .slice none 0 0)) := HZ.out.blw hbk
    have HOW : Hid (BookOwn (fun x => w.heap.size < x ∧ x < wn.heap.size ∧ x ≠ zb) wn b3 R) := own3.mono (fun x hx => ⟨by have := HZB.out; omega, hx.2, by omega⟩)
    replace HT : Hid (TS E wn zt b B) := HT.out.blw hbk
    replace HS : Hid (Row wn w.heap.size 4 (fun i => if i = 0 then .int .i64 k else if i = 1 then .int .i64 a else if i = 2 then .int .i64 g else .int .i64 y)) := HS.out.blw hbk
    replace HM : Hid (Mod (fun x => x = zt) w wn) := HM.out.trans (hbk.mod _)
    clear ho3 hs3 own3 hbk hsz hzw hzz
    refine hK.out _ _ (And.intro HT.out.box HS.out) (fun hB => ?_)
    clear hK K hB
    try simp only [Act.put, List.setIfInBounds_toArray, List.set_cons_zero, List.set_cons_succ]
    refine wpAnyH_take (i := 5) (oi := { dst := some 7, op := Op.move (Operand.tmp 12), type := 111, pos := _, after := #[{ on := 4, ground := Ground.data }], guard := none }) (v := (.tuple #[b3.val R, .bool r3])) rfl (by kernel_rfl) (by kernel_rfl) (by kernel_rfl) (fun _ _ _ h => h) (Or.inl ⟨by rfl, fun w' hS => by (try dsimp only at hS); go_simp⟩) (And.intro HT.out.box HS.out) ?_
    simp only [Act.put, List.setIfInBounds_toArray, List.set_cons_zero, List.set_cons_succ]
    refine wpAnyH_take (i := 6) (oi := { dst := some 13, op := Op.extract (Operand.tmp 7) 0, type := 29, pos := _, after := #[{ on := 5, ground := Ground.data }], guard := none }) (v := (.agg #[.slice b3.a1 R.n b3.c1, .slice b3.a2 R.D.n b3.c2])) rfl (by kernel_rfl) (by kernel_rfl) (by kernel_rfl) (fun _ _ _ h => h) (Or.inl ⟨by rfl, fun w' hS => by (try dsimp only at hS); go_simp⟩) (And.intro HT.out.box HS.out) ?_
    simp only [Act.put, List.setIfInBounds_toArray, List.set_cons_zero, List.set_cons_succ]
    refine wpAnyH_take (i := 7) (oi := { dst := some 14, op := Op.extract (Operand.tmp 7) 1, type := 4, pos := _, after := #[{ on := 5, ground := Ground.data }, { on := 9, ground := Ground.gcOnly Departure.lateStores }], guard := none }) (v := (.bool r3)) rfl (by kernel_rfl) (by kernel_rfl) (by kernel_rfl) (fun _ _ _ h => h) (Or.inl ⟨by rfl, fun w' hS => by (try dsimp only at hS); go_simp⟩) (And.intro HT.out.box HS.out) ?_
    simp only [Act.put, List.setIfInBounds_toArray, List.set_cons_zero, List.set_cons_succ]
    refine wpAnyH_ready (rs := [9]) (by kernel_rfl) (by simp) ?_
    refine AllReadyH.cons (o := { dst := none, op := Op.store 29 (Operand.tmp 5) (Operand.tmp 13), type := 0, pos := _, after := #[{ on := 8, ground := Ground.data }, { on := 6, ground := Ground.data }, { on := 4, ground := Ground.chain }, { on := 0, ground := Ground.phase }, { on := 1, ground := Ground.phase }, { on := 2, ground := Ground.phase }, { on := 3, ground := Ground.phase }, { on := 4, ground := Ground.phase }, { on := 5, ground := Ground.phase }, { on := 6, ground := Ground.phase }, { on := 7, ground := Ground.textOnly Departure.lateStores }, { on := 8, ground := Ground.phase }], guard := none }) rfl (fun K hK => ?_) AllReadyH.nil
    obtain ⟨z0, z1⟩ := get2 HZ.out
    have fz0 := HZ.out.frozen 0
    have fz1 := HZ.out.frozen 1
    obtain ⟨ft, fz, fa, fm, fend⟩ := ct_end hE HT.out HZ.out HZB.out HOW.out HM.out hzt HNO.out
    have hm2 := set2_mod (X := fun x => x = zb) wn rfl (.slice b3.a1 R.n b3.c1) (.slice b3.a2 R.D.n b3.c2)
    have hSt := And.intro ft.box (HS.out.mod hm2 (by have := HZB.out; omega))
    have FT : Hid (TS E _ zt b B) := ft
    have FZ : Hid (Row _ zb 2 (fun i => if i = 0 then .slice b3.a1 R.n b3.c1 else .slice b3.a2 R.D.n b3.c2)) := fz
    have FM : Hid (Mod (fun x => x = zt) w _) := fm
    have FE : Hid (TS E _ zt b3 R ∧ Mod (fun x => x = zt) w _) := fend
    clear ft fz fa fm fend hm2
    go_simp
    refine hK.out _ _ hSt (fun hB => ?_)
    clear hK K hB
    try simp only [Act.put, List.setIfInBounds_toArray, List.set_cons_zero, List.set_cons_succ]
    clear z0 z1 fz0 fz1
    refine wpAnyH_take (i := 10) (oi := { dst := some 6, op := Op.assign (Operand.tmp 14), type := 4, pos := _, after := #[{ on := 7, ground := Ground.data }, { on := 9, ground := Ground.chain }, { on := 0, ground := Ground.phase }, { on := 1, ground := Ground.phase }, { on := 2, ground := Ground.phase }, { on := 3, ground := Ground.phase }, { on := 4, ground := Ground.phase }, { on := 5, ground := Ground.phase }, { on := 6, ground := Ground.phase }, { on := 7, ground := Ground.phase }, { on := 8, ground := Ground.phase }, { on := 9, ground := Ground.phase }], guard := none }) (v := (.bool r3)) rfl (by kernel_rfl) (by kernel_rfl) (by kernel_rfl) (fun _ _ _ h => h) (Or.inl ⟨by rfl, fun w' hS => by (try dsimp only at hS); go_simp⟩) hSt ?_
    simp only [Act.put, List.setIfInBounds_toArray, List.set_cons_zero, List.set_cons_succ]
    refine wpAnyH_done (by kernel_rfl) ?_ _
    refine NoPanic.normal ?_
    clear hSt P0 P1 HT HS HM HZ HZB HOW HSZ HNO
    generalize ((wn.setCell ⟨zb, 0, none⟩ (.slice b3.a1 R.n b3.c1)).setCell ⟨zb, 1, none⟩ (.slice b3.a2 R.D.n b3.c2)) = W2 at *
    cases r3
    · have FIN : Hid (∃ b' R' r', Ending.returned (.bool false) = .returned (.bool r') ∧ ctO B k a g y R' r' ∧ TS E W2 zt b' R' ∧ Mod (fun x => x = zt) w W2) := ⟨b, B, false, rfl, ⟨R, HO.out, Or.inr ⟨rfl, rfl⟩⟩, FT.out, FM.out⟩
      clear HO FZ FT FM FE
      go_wp2
      go_ret
      exact FIN.out
    · obtain ⟨q0, q1⟩ := get2 FZ.out
      obtain ⟨t0, t1⟩ := get2 FT.out.box
      have f0 := FT.out.box.frozen 0
      have f1 := FT.out.box.frozen 1
      have FIN : Hid (∃ b' R' r', Ending.returned (.bool true) = .returned (.bool r') ∧ ctO B k a g y R' r' ∧ TS E ((W2.setCell ⟨zt, 0, none⟩ (.slice b3.a1 R.n b3.c1)).setCell ⟨zt, 1, none⟩ (.slice b3.a2 R.D.n b3.c2)) zt b' R' ∧ Mod (fun x => x = zt) w ((W2.setCell ⟨zt, 0, none⟩ (.slice b3.a1 R.n b3.c1)).setCell ⟨zt, 1, none⟩ (.slice b3.a2 R.D.n b3.c2))) := ⟨b3, R, true, rfl, ⟨R, HO.out, Or.inl ⟨rfl, rfl⟩⟩, FE.out.1, FE.out.2⟩
      clear HO FZ FT FM FE
      go_wp2
      refine bodyPost_ret (v := .bool true) (by simp [results, Try.results148, go_sem]) rfl FIN.out
end Go.Proofs.Ytbpdopcdhnemfaa
/- Tables that are changed: what stands at each place. -/
namespace Go.Proofs.Ytbpdopcdhnemfaa
open Go.RowKit
set_option linter.unusedSimpArgs false
set_option linter.unusedVariables false
theorem div_mod_ne {a x : Nat} (h : a ≠ x) (e : a / 4 = x / 4) : a % 4 ≠ x % 4 := by omega
theorem lt_q {B : BD} (g : B.Good) {t q : Nat} (ht : t < 4) (h : goes B.c B.D.n t q) : q < B.D.n := by
  rcases h with h | ⟨_, h⟩
  · have := g.top t (by rw [g.n]; exact ht); rw [h] at this; omega
  · exact h.1
/-- No other top has the list that a leaf comes into. -/
theorem other_top {B : BD} (g : B.Good) {t q i : Nat} (ht : t < 4) (hi : i < 4) (hne : i ≠ t) (h : goes B.c B.D.n t q) : ¬ B.c i = (q : Int) := by
  intro e
  rcases h with h | ⟨_, h⟩
  · rcases Nat.lt_or_gt_of_ne hne with h1 | h1
    · exact g.dis t i (by rw [g.n]; exact ht) h1 (by omega) (by rw [e, h])
    · exact g.dis i t (by rw [g.n]; exact hi) h1 (by omega) (by rw [e, h])
  · exact h.2.1 ⟨i, hi, e⟩
theorem idle_zero {B : BD} (g : B.Good) {t q j : Nat} (hj : j < 4) (hc : B.c t = -1) (h : isIdle B.c B.D.n q) : B.D.p q j = 0 ∧ B.D.m q j = 0 := by
  have h1 := g.idle q h.1 (fun i hi e => h.2.1 ⟨i, by rw [g.n] at hi; exact hi, e⟩) j hj
  have h2 := (g.leaf q h.1).2 j hj
  unfold leafOK at h2
  omega
theorem ch_good {B : BD} (g : B.Good) {x q : Nat} {gp y : Int} (hx : x < 16) (h : goes B.c B.D.n (x / 4) q) (hl : leafOK gp y) : (chB B x q gp y).Good := by
  have hq := lt_q g (by omega) h
  have hn := g.n
  have hgn : ∀ i, i < 4 → i < B.n := fun i hi => by rw [hn]; exact hi
  refine ⟨rfl, g.k, fun i hi => ⟨rfl, fun j hj => ?_⟩, fun i hi => ?_, fun i j hi hj h0 e => ?_, fun k hk hno j hj => ?_⟩
  · show leafOK (upd2 B.D.p q (x % 4) gp i j) (upd2 B.D.m q (x % 4) y i j)
    unfold upd2
    by_cases e : i = q ∧ j = x % 4
    · rw [if_pos e, if_pos e]; exact hl
    · rw [if_neg e, if_neg e]; exact (g.leaf i hi).2 j hj
  · show -1 ≤ topsOf B.c (x / 4) q _ _ i ∧ topsOf B.c (x / 4) q _ _ i ≤ (B.D.n : Int) - 1
    have hi4 : i < 4 := hi
    have ht := g.top i (hgn i hi4)
    by_cases hz : isZero8 (upd2 B.D.p q (x % 4) gp q) (upd2 B.D.m q (x % 4) y q)
    · rw [topsOf_yes hz]; unfold upd; split
      · have := g.k; omega
      · exact ht
    · rw [topsOf_no hz]; unfold upd; split
      · omega
      · exact ht
  · have hi4 : i < 4 := hi
    replace h0 : 0 ≤ topsOf B.c (x / 4) q (upd2 B.D.p q (x % 4) gp q) (upd2 B.D.m q (x % 4) y q) i := h0
    replace e : topsOf B.c (x / 4) q (upd2 B.D.p q (x % 4) gp q) (upd2 B.D.m q (x % 4) y q) j = topsOf B.c (x / 4) q (upd2 B.D.p q (x % 4) gp q) (upd2 B.D.m q (x % 4) y q) i := e
    by_cases hz : isZero8 (upd2 B.D.p q (x % 4) gp q) (upd2 B.D.m q (x % 4) y q)
    · rw [topsOf_yes hz] at h0 e
      unfold upd at h0 e
      by_cases e1 : i = x / 4
      · rw [if_pos e1] at h0; omega
      · rw [if_neg e1] at h0 e
        by_cases e2 : j = x / 4
        · rw [if_pos e2] at e; omega
        · rw [if_neg e2] at e; exact g.dis i j (hgn i hi4) hj h0 e
    · rw [topsOf_no hz] at h0 e
      unfold upd at h0 e
      by_cases e1 : i = x / 4
      · have e2 : ¬ j = x / 4 := by omega
        rw [if_pos e1, if_neg e2] at e
        exact other_top g (by omega) (by omega) e2 h e
      · rw [if_neg e1] at h0 e
        by_cases e2 : j = x / 4
        · rw [if_pos e2] at e; exact other_top g (by omega) hi4 e1 h e.symm
        · rw [if_neg e2] at e; exact g.dis i j (hgn i hi4) hj h0 e
  · have hno2 : ∀ i, i < 4 → ¬ topsOf B.c (x / 4) q (upd2 B.D.p q (x % 4) gp q) (upd2 B.D.m q (x % 4) y q) i = (k : Int) := fun i hi => hno i hi
    show ¬ 0 < upd2 B.D.m q (x % 4) y k j
    have hx4 : x / 4 < 4 := by omega
    by_cases hz : isZero8 (upd2 B.D.p q (x % 4) gp q) (upd2 B.D.m q (x % 4) y q)
    · by_cases e : k = q
      · subst e; rw [(hz j hj).2]; omega
      · have h1 : ¬ (k = q ∧ j = x % 4) := fun h => e h.1
        unfold upd2
        rw [if_neg h1]
        refine g.idle k hk (fun i hi ei => ?_) j hj
        have hi4 : i < 4 := by rw [hn] at hi; exact hi
        by_cases e1 : i = x / 4
        · subst e1
          rcases h with h | ⟨h, _⟩
          · omega
          · omega
        · have := hno2 i hi4
          rw [topsOf_yes hz] at this
          unfold upd at this
          rw [if_neg e1] at this
          exact this ei
    · by_cases e : k = q
      · subst e
        have := hno2 (x / 4) hx4
        rw [topsOf_no hz, upd_at] at this
        exact absurd rfl this
      · have h1 : ¬ (k = q ∧ j = x % 4) := fun h => e h.1
        unfold upd2
        rw [if_neg h1]
        refine g.idle k hk (fun i hi ei => ?_) j hj
        have hi4 : i < 4 := by rw [hn] at hi; exact hi
        by_cases e1 : i = x / 4
        · subst e1
          rcases h with h | ⟨h, _⟩
          · omega
          · omega
        · have := hno2 i hi4
          rw [topsOf_no hz] at this
          unfold upd at this
          rw [if_neg e1] at this
          exact this ei
/-- The leaf at each place behind a change. -/
theorem ch_leaf {B : BD} (g : B.Good) {x q a : Nat} {gp y : Int} (hx : x < 16) (ha : a < 16) (h : goes B.c B.D.n (x / 4) q) :
    lfP (chB B x q gp y).c (chB B x q gp y).D.p a = (if a = x then gp else lfP B.c B.D.p a) ∧ lfP (chB B x q gp y).c (chB B x q gp y).D.m a = (if a = x then y else lfP B.c B.D.m a) := by
  show lfP (topsOf B.c (x / 4) q (upd2 B.D.p q (x % 4) gp q) (upd2 B.D.m q (x % 4) y q)) (upd2 B.D.p q (x % 4) gp) a = _ ∧ lfP (topsOf B.c (x / 4) q (upd2 B.D.p q (x % 4) gp q) (upd2 B.D.m q (x % 4) y q)) (upd2 B.D.m q (x % 4) y) a = _
  by_cases et : a / 4 = x / 4
  · by_cases hz : isZero8 (upd2 B.D.p q (x % 4) gp q) (upd2 B.D.m q (x % 4) y q)
    · rw [topsOf_yes hz]
      have hc : ¬ 0 ≤ upd B.c (x / 4) (-1) (a / 4) := by rw [et, upd_at]; omega
      rw [lfP_no hc, lfP_no hc]
      by_cases ea : a = x
      · subst ea
        rw [if_pos rfl, if_pos rfl]
        have := hz (a % 4) (by omega)
        rw [upd2_at, upd2_at] at this
        exact ⟨this.1.symm, this.2.symm⟩
      · rw [if_neg ea, if_neg ea]
        have hm := div_mod_ne ea et
        have hz' := hz (a % 4) (by omega)
        have hu : ∀ (f : Nat → Nat → Int) (v : Int), upd2 f q (x % 4) v q (a % 4) = f q (a % 4) := fun f v => by unfold upd2; rw [if_neg (fun h => hm h.2)]
        rw [hu, hu] at hz'
        rcases h with h | ⟨h, _⟩
        · have h' : B.c (a / 4) = (q : Int) := by rw [et]; exact h
          rw [lfP_yes h', lfP_yes h', hz'.1, hz'.2]
          exact ⟨rfl, rfl⟩
        · have h' : ¬ 0 ≤ B.c (a / 4) := by rw [et, h]; omega
          rw [lfP_no h', lfP_no h']
          exact ⟨rfl, rfl⟩
    · rw [topsOf_no hz]
      have hc : upd B.c (x / 4) q (a / 4) = (q : Int) := by rw [et, upd_at]
      rw [lfP_yes hc, lfP_yes hc]
      by_cases ea : a = x
      · subst ea
        rw [if_pos rfl, if_pos rfl, upd2_at, upd2_at]
        exact ⟨rfl, rfl⟩
      · rw [if_neg ea, if_neg ea]
        have hm := div_mod_ne ea et
        have hu : ∀ (f : Nat → Nat → Int) (v : Int), upd2 f q (x % 4) v q (a % 4) = f q (a % 4) := fun f v => by unfold upd2; rw [if_neg (fun h => hm h.2)]
        rw [hu, hu]
        rcases h with h | ⟨h, hid⟩
        · have h' : B.c (a / 4) = (q : Int) := by rw [et]; exact h
          rw [lfP_yes h', lfP_yes h']
          exact ⟨rfl, rfl⟩
        · have h' : ¬ 0 ≤ B.c (a / 4) := by rw [et, h]; omega
          rw [lfP_no h', lfP_no h']
          have := idle_zero g (j := a % 4) (by omega) h hid
          exact this
  · have ea : ¬ a = x := fun e => et (by rw [e])
    rw [if_neg ea, if_neg ea]
    have hc : topsOf B.c (x / 4) q (upd2 B.D.p q (x % 4) gp q) (upd2 B.D.m q (x % 4) y q) (a / 4) = B.c (a / 4) := by
      by_cases hz : isZero8 (upd2 B.D.p q (x % 4) gp q) (upd2 B.D.m q (x % 4) y q)
      · rw [topsOf_yes hz]; unfold upd; rw [if_neg et]
      · rw [topsOf_no hz]; unfold upd; rw [if_neg et]
    by_cases h0 : 0 ≤ B.c (a / 4)
    · obtain ⟨s, hs⟩ : ∃ s : Nat, B.c (a / 4) = s := ⟨(B.c (a / 4)).toNat, by omega⟩
      have hne : ¬ s = q := fun e => other_top g (by omega) (by omega) et h (by rw [hs, e])
      rw [lfP_yes (hc.trans hs), lfP_yes (hc.trans hs), lfP_yes hs, lfP_yes hs]
      unfold upd2
      rw [if_neg (fun h => hne h.1), if_neg (fun h => hne h.1)]
      exact ⟨rfl, rfl⟩
    · have h1 : ¬ 0 ≤ topsOf B.c (x / 4) q (upd2 B.D.p q (x % 4) gp q) (upd2 B.D.m q (x % 4) y q) (a / 4) := by rw [hc]; exact h0
      rw [lfP_no h1, lfP_no h1, lfP_no h0, lfP_no h0]
      exact ⟨rfl, rfl⟩
theorem lf_ok {B : BD} (g : B.Good) {a : Nat} (ha : a < 16) : leafOK (lfP B.c B.D.p a) (lfP B.c B.D.m a) := by
  have ht := g.top (a / 4) (by rw [g.n]; omega)
  by_cases h0 : 0 ≤ B.c (a / 4)
  · obtain ⟨s, hs⟩ : ∃ s : Nat, B.c (a / 4) = s := ⟨(B.c (a / 4)).toNat, by omega⟩
    rw [lfP_yes hs, lfP_yes hs]
    exact (g.leaf s (by omega)).2 (a % 4) (by omega)
  · rw [lfP_no h0, lfP_no h0]; unfold leafOK; omega
/-- Two good tables that have the same at a place tell the same there. -/
theorem wt_eq {B B' : BD} (g : B.Good) (g' : B'.Good) {a k x y x' y' : Int} {r r' : Bool} (hp : lfP B.c B.D.p a.toNat = lfP B'.c B'.D.p a.toNat) (hm : lfP B.c B.D.m a.toNat = lfP B'.c B'.D.m a.toNat) (h : wtOut B a k x y r) (h' : wtOut B' a k x' y' r') : x = x' ∧ y = y' ∧ r = r' := by
  have e : wtOut B a k x' y' r' := by
    rcases h' with ⟨n, h1, h2, h3⟩ | ⟨n, h1, h2⟩
    · exact Or.inl ⟨fun q => n ⟨g', q.2⟩, h1, h2, h3⟩
    · rw [← hp, ← hm] at h2; rw [← hm] at h1
      exact Or.inr ⟨⟨g, n.2⟩, h1, h2⟩
  exact wtOut_same h e
/-- What a walk of two tables tells alike. -/
def Like (B B' : BD) (nt : Int) : Prop := B.Good ∧ B'.Good ∧ ∀ a : Nat, a < 16 → ¬ (a : Int) = nt → lfP B.c B.D.p a = lfP B'.c B'.D.p a ∧ lfP B.c B.D.m a = lfP B'.c B'.D.m a
theorem Like.walk {B B' : BD} {nt : Int} (h : Like B B' nt) {a : Nat} (ha : a < 16) (hn : ¬ (a : Int) = nt) {k x y x' y' : Int} {r r' : Bool} (h1 : wtOut B a k x y r) (h2 : wtOut B' a k x' y' r') : x = x' ∧ y = y' ∧ r = r' := by
  have := h.2.2 a ha hn
  exact wt_eq h.1 h.2.1 (by rw [Int.toNat_natCast]; exact this.1) (by rw [Int.toNat_natCast]; exact this.2) h1 h2
theorem like_ch {B : BD} (g : B.Good) {x q : Nat} {gp y : Int} (hx : x < 16) (h : goes B.c B.D.n (x / 4) q) (hl : leafOK gp y) : Like B (chB B x q gp y) (x : Int) := by
  refine ⟨g, ch_good g hx h hl, fun a ha hn => ?_⟩
  obtain ⟨h1, h2⟩ := ch_leaf (gp := gp) (y := y) g hx ha h
  have : ¬ a = x := fun e => hn (by rw [e])
  rw [if_neg this] at h1 h2
  exact ⟨h1.symm, h2.symm⟩
/-! ### The lists of places -/
theorem pk_one {P P' : Nat → Bool} {x : Nat} (hP : P x = true) (hP' : P' x = false) (he : ∀ a, a ≠ x → P a = P' a) : ∀ n, (x < n → (pk P n).length = (pk P' n).length + 1) ∧ (n ≤ x → pk P n = pk P' n)
  | 0 => ⟨fun h => absurd h (Nat.not_lt_zero _), fun _ => rfl⟩
  | n + 1 => by
    obtain ⟨h1, h2⟩ := pk_one hP hP' he n
    by_cases e : n = x
    · subst e
      refine ⟨fun _ => ?_, fun h => absurd h (by omega)⟩
      rw [pk_yes hP, pk_no hP', h2 (Nat.le_refl _)]
      simp
    · have hs := he n e
      refine ⟨fun h => ?_, fun h => ?_⟩
      · have h3 := h1 (by omega)
        cases hb : P n
        · rw [pk_no hb, pk_no (hs ▸ hb)]; exact h3
        · rw [pk_yes hb, pk_yes (hs ▸ hb)]; simp; omega
      · have h3 := h2 (by omega)
        cases hb : P n
        · rw [pk_no hb, pk_no (hs ▸ hb)]; exact h3
        · rw [pk_yes hb, pk_yes (hs ▸ hb), h3]
theorem getD_at {l : List Nat} {t : Nat} (h : t < l.length) : l.getD t 0 = l[t] := by simp [List.getD, List.getElem?_eq_getElem h]
theorem has_pk {P : Nat → Bool} {n x : Nat} (hx : x < n) : hasLine (pk P n).length (lf (pk P n)) (x : Int) ↔ P x = true := by
  constructor
  · rintro ⟨t, ht, e⟩
    have h1 : (pk P n).getD t 0 = x := by unfold lf at e; omega
    have h2 : x ∈ pk P n := by
      rw [← h1, getD_at ht]
      exact List.getElem_mem ht
    unfold pk at h2
    exact (List.mem_filter.1 h2).2
  · intro h
    have h2 : x ∈ pk P n := List.mem_filter.2 ⟨List.mem_range.2 hx, h⟩
    obtain ⟨t, ht, e⟩ := List.getElem_of_mem h2
    refine ⟨t, ht, ?_⟩
    unfold lf
    rw [getD_at ht, e]
theorem pk_four {P : Nat → Bool} (n : Nat) : (pk P (n + 4)).length ≤ (pk P n).length + 4 ∧ ((∀ a, n ≤ a → a < n + 4 → P a = false) → (pk P (n + 4)).length = (pk P n).length) := by
  have step : ∀ k, (pk P (k + 1)).length ≤ (pk P k).length + 1 := fun k => by
    cases h : P k
    · rw [pk_no h]; omega
    · rw [pk_yes h]; simp
  refine ⟨by have h0 := step n; have h1 : (pk P (n + 2)).length ≤ (pk P (n + 1)).length + 1 := step (n + 1); have h2 : (pk P (n + 3)).length ≤ (pk P (n + 2)).length + 1 := step (n + 2); have h3 : (pk P (n + 4)).length ≤ (pk P (n + 3)).length + 1 := step (n + 3); omega, fun h => ?_⟩
  show (pk P (n + 3 + 1)).length = _
  rw [pk_no (h (n + 3) (by omega) (by omega))]
  show (pk P (n + 2 + 1)).length = _
  rw [pk_no (h (n + 2) (by omega) (by omega))]
  show (pk P (n + 1 + 1)).length = _
  rw [pk_no (h (n + 1) (by omega) (by omega)), pk_no (h n (by omega) (by omega))]
end Go.Proofs.Ytbpdopcdhnemfaa
/- Steps played by a table: the program's. -/
namespace Go.Proofs.Ytbpdopcdhnemfaa
open Go.RowKit
set_option linter.unusedSimpArgs false
set_option linter.unusedVariables false
/-- What a right step tells, and the table behind it. -/
def PSO (B : BD) (k a g y : Int) (R : BD) (v : Int) : Prop :=
  (k = 1 ∧ R = B ∧ ∃ x yy r, wtOut B a y x yy r ∧ v = if r = true then 1 + x else 0) ∨ (¬ k = 1 ∧ ∃ r, ctO B k a g y R r ∧ v = if r = true then 1 else 0)
def PSF (B : BD) (k a g y : Int) (R : BD) (v : Int) : Prop := (¬ rightS k a g y ∧ R = B ∧ v = -1) ∨ (rightS k a g y ∧ PSO B k a g y R v)
theorem right_k {k a g y : Int} (h : rightS k a g y) (h1 : ¬ k = 1) : k = 2 ∨ k = 3 ∨ k = 4 := by rcases h.2 with h | h | h <;> omega
theorem PSO_same {B : BD} {k a g y : Int} {R R' : BD} {v v' : Int} (hr : rightS k a g y) (h : PSO B k a g y R v) (h' : PSO B k a g y R' v') : R = R' ∧ v = v' := by
  rcases h with ⟨k1, rfl, x, yy, r, hw, rfl⟩ | ⟨k1, r, hc, rfl⟩ <;> rcases h' with ⟨k1', rfl, x', yy', r', hw', rfl⟩ | ⟨k1', r', hc', rfl⟩
  · obtain ⟨rfl, rfl, rfl⟩ := wtOut_same hw hw'; exact ⟨rfl, rfl⟩
  · exact absurd k1 k1'
  · exact absurd k1' k1
  · obtain ⟨rfl, rfl⟩ := ctO_same (right_k hr k1) hc hc'; exact ⟨rfl, rfl⟩
theorem PSF_same {B : BD} {k a g y : Int} {R R' : BD} {v v' : Int} (h : PSF B k a g y R v) (h' : PSF B k a g y R' v') : R = R' ∧ v = v' := by
  rcases h with ⟨n, rfl, rfl⟩ | ⟨n, h⟩ <;> rcases h' with ⟨n', rfl, rfl⟩ | ⟨n', h'⟩
  · exact ⟨rfl, rfl⟩
  · exact absurd n' n
  · exact absurd n n'
  · exact PSO_same n h h'
theorem wt_page {B : BD} {a y x yy : Int} {r : Bool} (h : wtOut B a y x yy r) : 0 ≤ x ∧ x ≤ 15 := by
  rcases h with ⟨_, rfl, _⟩ | ⟨ok, _, ⟨_, rfl, _⟩ | ⟨_, rfl, _⟩⟩
  · omega
  · have h1 : pgOK a := ok.2.1
    have := lf_ok ok.1 (a := a.toNat) (by unfold pgOK at h1; omega)
    unfold leafOK at this
    omega
  · omega
set_option maxRecDepth 10000 in
set_option maxHeartbeats 6400000 in
theorem stepT_any (E : Nat → Prop) (zt : Nat) (b : BV) (B : BD) (k a g y : Int) (w : World) (hr : rightS k a g y) (hE : ∀ x, E x → x < w.heap.size) (h : TS E w zt b B) :
    Calls Try.prog 89 #[.pointer (some ⟨zt, 0, none⟩), .agg #[.int .i64 k, .int .i64 a, .int .i64 g, .int .i64 y]] w fun e w' => ∃ b' R v, e = .returned (.int .i64 v) ∧ PSO B k a g y R v ∧ TS E w' zt b' R ∧ Mod (fun x => x = zt) w w' := by
  have hA : Blw w (w.alloc (.cells #[.int .i64 k, .int .i64 a, .int .i64 g, .int .i64 y] 42)) := (Blw.refl _).alloc _
  have HT : Hid (TS E (w.alloc (.cells #[.int .i64 k, .int .i64 a, .int .i64 g, .int .i64 y] 42)) zt b B) := h.blw hA
  have HS : Hid (Row (w.alloc (.cells #[.int .i64 k, .int .i64 a, .int .i64 g, .int .i64 y] 42)) w.heap.size 4 (fun i => if i = 0 then .int .i64 k else if i = 1 then .int .i64 a else if i = 2 then .int .i64 g else .int .i64 y)) := box4 w _ _ _ _ 42
  have HB : Hid (Blw w (w.alloc (.cells #[.int .i64 k, .int .i64 a, .int .i64 g, .int .i64 y] 42))) := hA
  have HRI : Hid (rightS k a g y) := hr
  have hsz : (w.alloc (.cells #[.int .i64 k, .int .i64 a, .int .i64 g, .int .i64 y] 42)).heap.size = w.heap.size + 1 := by simp
  have HSZ : Hid (w.heap.size ≤ (w.alloc (.cells #[.int .i64 k, .int .i64 a, .int .i64 g, .int .i64 y] 42)).heap.size) := by show _ ≤ _; omega
  clear h hA hr hsz
  go_enter Try.func89, Try.ntmps89
  obtain ⟨s0, s1, s2, s3⟩ := get4 HS.out
  by_cases k1 : k = 1
  · subst k1
    go_upto_region 2 with fail
    clear s0 s1 s2 s3
    generalize w.alloc (.cells #[.int .i64 1, .int .i64 a, .int .i64 g, .int .i64 y] 42) = wp at *
    replace HT : Hid (TS E wp.drew zt b B) := HT.out.blw (Blw.refl _).drew
    replace HS : Hid (Row wp.drew w.heap.size 4 (fun i => if i = 0 then .int .i64 1 else if i = 1 then .int .i64 a else if i = 2 then .int .i64 g else .int .i64 y)) := HS.out.blw (Blw.refl _).drew
    replace HB : Hid (Blw w wp.drew) := HB.out.drew
    have P0 : ∀ w', (Row w' zt 2 (fun i => if i = 0 then .slice b.a1 B.n b.c1 else .slice b.a2 B.D.n b.c2) ∧ Row w' w.heap.size 4 (fun i => if i = 0 then .int .i64 1 else if i = 1 then .int .i64 a else if i = 2 then .int .i64 g else .int .i64 y)) → w'.cell? ⟨zt, 0, none⟩ = some (.slice b.a1 B.n b.c1) ∧ w'.cell? ⟨zt, 1, none⟩ = some (.slice b.a2 B.D.n b.c2) := fun w' hh => get2 hh.1
    have P1 : ∀ w', (Row w' zt 2 (fun i => if i = 0 then .slice b.a1 B.n b.c1 else .slice b.a2 B.D.n b.c2) ∧ Row w' w.heap.size 4 (fun i => if i = 0 then .int .i64 1 else if i = 1 then .int .i64 a else if i = 2 then .int .i64 g else .int .i64 y)) → w'.cell? ⟨w.heap.size, 1, none⟩ = some (.int .i64 a) ∧ w'.cell? ⟨w.heap.size, 3, none⟩ = some (.int .i64 y) := fun w' hh => ⟨(get4 hh.2).2.1, (get4 hh.2).2.2.2⟩
    refine wp_region_noPanic ?_
    refine wp_region_held_drew (S := fun w' => Row w' zt 2 (fun i => if i = 0 then .slice b.a1 B.n b.c1 else .slice b.a2 B.D.n b.c2) ∧ Row w' w.heap.size 4 (fun i => if i = 0 then .int .i64 1 else if i = 1 then .int .i64 a else if i = 2 then .int .i64 g else .int .i64 y)) (by kernel_rfl) (And.intro HT.out.box HS.out) (fun hB => ?_)
    clear hB
    generalize wp.drew = wd at *
    refine wpAnyH_take (i := 0) (oi := { dst := some 12, op := Op.move (Operand.tmp 0), type := 120, pos := _, after := #[], guard := none }) (v := (.pointer (some ⟨zt, 0, none⟩))) rfl (by kernel_rfl) (by kernel_rfl) (by kernel_rfl) (fun _ _ _ h => h) (Or.inl ⟨by rfl, fun w' hS => by (try dsimp only at hS); go_simp⟩) (And.intro HT.out.box HS.out) ?_
    simp only [Act.put, List.setIfInBounds_toArray, List.set_cons_zero, List.set_cons_succ]
    refine wpAnyH_take (i := 3) (oi := { dst := some 15, op := Op.fieldAddr 42 (Operand.tmp 3) 1, type := 0, pos := _, after := #[], guard := none }) (v := (.pointer (some ⟨w.heap.size, 1, none⟩))) rfl (by kernel_rfl) (by kernel_rfl) (by kernel_rfl) (fun _ _ _ h => h) (Or.inl ⟨by rfl, fun w' hS => by (try dsimp only at hS); go_simp⟩) (And.intro HT.out.box HS.out) ?_
    simp only [Act.put, List.setIfInBounds_toArray, List.set_cons_zero, List.set_cons_succ]
    refine wpAnyH_take (i := 5) (oi := { dst := some 17, op := Op.fieldAddr 42 (Operand.tmp 3) 3, type := 0, pos := _, after := #[], guard := none }) (v := (.pointer (some ⟨w.heap.size, 3, none⟩))) rfl (by kernel_rfl) (by kernel_rfl) (by kernel_rfl) (fun _ _ _ h => h) (Or.inl ⟨by rfl, fun w' hS => by (try dsimp only at hS); go_simp⟩) (And.intro HT.out.box HS.out) ?_
    simp only [Act.put, List.setIfInBounds_toArray, List.set_cons_zero, List.set_cons_succ]
    refine wpAnyH_take (i := 1) (oi := { dst := some 13, op := Op.nilCheck (Operand.tmp 12), type := 0, pos := _, after := #[{ on := 0, ground := Ground.data }], guard := none }) (v := (.pointer (some ⟨zt, 0, none⟩))) rfl (by kernel_rfl) (by kernel_rfl) (by kernel_rfl) (fun _ _ _ h => h) (Or.inl ⟨by rfl, fun w' hS => by (try dsimp only at hS); go_simp⟩) (And.intro HT.out.box HS.out) ?_
    simp only [Act.put, List.setIfInBounds_toArray, List.set_cons_zero, List.set_cons_succ]
    refine wpAnyH_take (i := 4) (oi := { dst := some 16, op := Op.load 3 (Operand.tmp 15), type := 3, pos := _, after := #[{ on := 3, ground := Ground.data }], guard := none }) (v := (.int .i64 a)) rfl (by kernel_rfl) (by kernel_rfl) (by kernel_rfl) (fun _ _ _ h => h) (Or.inl ⟨by rfl, fun w' hS => by (try dsimp only at hS); go_simp⟩) (And.intro HT.out.box HS.out) ?_
    simp only [Act.put, List.setIfInBounds_toArray, List.set_cons_zero, List.set_cons_succ]
    refine wpAnyH_take (i := 6) (oi := { dst := some 18, op := Op.load 3 (Operand.tmp 17), type := 3, pos := _, after := #[{ on := 5, ground := Ground.data }], guard := none }) (v := (.int .i64 y)) rfl (by kernel_rfl) (by kernel_rfl) (by kernel_rfl) (fun _ _ _ h => h) (Or.inl ⟨by rfl, fun w' hS => by (try dsimp only at hS); go_simp⟩) (And.intro HT.out.box HS.out) ?_
    simp only [Act.put, List.setIfInBounds_toArray, List.set_cons_zero, List.set_cons_succ]
    refine wpAnyH_take (i := 2) (oi := { dst := some 14, op := Op.load 29 (Operand.tmp 13), type := 29, pos := _, after := #[{ on := 1, ground := Ground.data }], guard := none }) (v := (.agg #[.slice b.a1 B.n b.c1, .slice b.a2 B.D.n b.c2])) rfl (by kernel_rfl) (by kernel_rfl) (by kernel_rfl) (fun _ _ _ h => h) (Or.inl ⟨by rfl, fun w' hS => by (try dsimp only at hS); go_simp⟩) (And.intro HT.out.box HS.out) ?_
    simp only [Act.put, List.setIfInBounds_toArray, List.set_cons_zero, List.set_cons_succ]
    refine wpAnyH_ready (rs := [7]) (by kernel_rfl) (by simp) ?_
    refine AllReadyH.cons (o := { dst := some 19, op := Op.call { callee := Callee.value (Operand.func 28), args := #[Operand.tmp 14, Operand.tmp 16, Operand.tmp 18], argTypes := #[29, 3, 3] }, type := 49, pos := _, after := #[{ on := 2, ground := Ground.data }, { on := 4, ground := Ground.data }, { on := 6, ground := Ground.data }], guard := none }) rfl (fun K hK => ?_) AllReadyH.nil
    go_simp
    refine (implWalk_any b B a y _ _ HT.out.at_ (fun x hx => hx.2.1)).mono ?_
    rintro e wn ⟨x, yy, r, rfl, ho, hbk⟩
    have HO : Hid (wtOut B a y x yy r) := ho
    replace HT : Hid (TS E wn zt b B) := HT.out.blw hbk
    replace HS : Hid (Row wn w.heap.size 4 (fun i => if i = 0 then .int .i64 1 else if i = 1 then .int .i64 a else if i = 2 then .int .i64 g else .int .i64 y)) := HS.out.blw hbk
    replace HB : Hid (Blw w wn) := HB.out.trans hbk
    clear ho hbk
    refine hK.out _ _ (And.intro HT.out.box HS.out) (fun hB => ?_)
    clear hK K hB
    try simp only [Act.put, List.setIfInBounds_toArray, List.set_cons_zero, List.set_cons_succ]
    refine wpAnyH_take (i := 8) (oi := { dst := some 11, op := Op.move (Operand.tmp 19), type := 49, pos := _, after := #[{ on := 7, ground := Ground.data }], guard := none }) (v := (.tuple #[.int .i64 x, .int .i64 yy, .bool r])) rfl (by kernel_rfl) (by kernel_rfl) (by kernel_rfl) (fun _ _ _ h => h) (Or.inl ⟨by rfl, fun w' hS => by (try dsimp only at hS); go_simp⟩) (And.intro HT.out.box HS.out) ?_
    simp only [Act.put, List.setIfInBounds_toArray, List.set_cons_zero, List.set_cons_succ]
    refine wpAnyH_take (i := 9) (oi := { dst := some 20, op := Op.extract (Operand.tmp 11) 0, type := 3, pos := _, after := #[{ on := 8, ground := Ground.data }], guard := none }) (v := (.int .i64 x)) rfl (by kernel_rfl) (by kernel_rfl) (by kernel_rfl) (fun _ _ _ h => h) (Or.inl ⟨by rfl, fun w' hS => by (try dsimp only at hS); go_simp⟩) (And.intro HT.out.box HS.out) ?_
    simp only [Act.put, List.setIfInBounds_toArray, List.set_cons_zero, List.set_cons_succ]
    refine wpAnyH_take (i := 10) (oi := { dst := some 21, op := Op.extract (Operand.tmp 11) 1, type := 3, pos := _, after := #[{ on := 8, ground := Ground.data }, { on := 12, ground := Ground.gcOnly Departure.lateStores }], guard := none }) (v := (.int .i64 yy)) rfl (by kernel_rfl) (by kernel_rfl) (by kernel_rfl) (fun _ _ _ h => h) (Or.inl ⟨by rfl, fun w' hS => by (try dsimp only at hS); go_simp⟩) (And.intro HT.out.box HS.out) ?_
    simp only [Act.put, List.setIfInBounds_toArray, List.set_cons_zero, List.set_cons_succ]
    refine wpAnyH_take (i := 11) (oi := { dst := some 22, op := Op.extract (Operand.tmp 11) 2, type := 4, pos := _, after := #[{ on := 8, ground := Ground.data }, { on := 13, ground := Ground.gcOnly Departure.lateStores }], guard := none }) (v := (.bool r)) rfl (by kernel_rfl) (by kernel_rfl) (by kernel_rfl) (fun _ _ _ h => h) (Or.inl ⟨by rfl, fun w' hS => by (try dsimp only at hS); go_simp⟩) (And.intro HT.out.box HS.out) ?_
    simp only [Act.put, List.setIfInBounds_toArray, List.set_cons_zero, List.set_cons_succ]
    refine wpAnyH_take (i := 12) (oi := { dst := some 5, op := Op.assign (Operand.tmp 20), type := 3, pos := _, after := #[{ on := 9, ground := Ground.data }, { on := 7, ground := Ground.chain }, { on := 0, ground := Ground.phase }, { on := 1, ground := Ground.phase }, { on := 2, ground := Ground.phase }, { on := 3, ground := Ground.phase }, { on := 4, ground := Ground.phase }, { on := 5, ground := Ground.phase }, { on := 6, ground := Ground.phase }, { on := 7, ground := Ground.phase }, { on := 8, ground := Ground.phase }, { on := 9, ground := Ground.phase }, { on := 10, ground := Ground.textOnly Departure.lateStores }, { on := 11, ground := Ground.textOnly Departure.lateStores }], guard := none }) (v := (.int .i64 x)) rfl (by kernel_rfl) (by kernel_rfl) (by kernel_rfl) (fun _ _ _ h => h) (Or.inl ⟨by rfl, fun w' hS => by (try dsimp only at hS); go_simp⟩) (And.intro HT.out.box HS.out) ?_
    simp only [Act.put, List.setIfInBounds_toArray, List.set_cons_zero, List.set_cons_succ]
    refine wpAnyH_take (i := 13) (oi := { dst := some 6, op := Op.assign (Operand.tmp 21), type := 3, pos := _, after := #[{ on := 10, ground := Ground.data }, { on := 12, ground := Ground.chain }, { on := 0, ground := Ground.phase }, { on := 1, ground := Ground.phase }, { on := 2, ground := Ground.phase }, { on := 3, ground := Ground.phase }, { on := 4, ground := Ground.phase }, { on := 5, ground := Ground.phase }, { on := 6, ground := Ground.phase }, { on := 7, ground := Ground.phase }, { on := 8, ground := Ground.phase }, { on := 9, ground := Ground.phase }, { on := 10, ground := Ground.phase }, { on := 11, ground := Ground.textOnly Departure.lateStores }, { on := 12, ground := Ground.phase }], guard := none }) (v := (.int .i64 yy)) rfl (by kernel_rfl) (by kernel_rfl) (by kernel_rfl) (fun _ _ _ h => h) (Or.inl ⟨by rfl, fun w' hS => by (try dsimp only at hS); go_simp⟩) (And.intro HT.out.box HS.out) ?_
    simp only [Act.put, List.setIfInBounds_toArray, List.set_cons_zero, List.set_cons_succ]
    refine wpAnyH_take (i := 14) (oi := { dst := some 7, op := Op.assign (Operand.tmp 22), type := 4, pos := _, after := #[{ on := 11, ground := Ground.data }, { on := 13, ground := Ground.chain }, { on := 0, ground := Ground.phase }, { on := 1, ground := Ground.phase }, { on := 2, ground := Ground.phase }, { on := 3, ground := Ground.phase }, { on := 4, ground := Ground.phase }, { on := 5, ground := Ground.phase }, { on := 6, ground := Ground.phase }, { on := 7, ground := Ground.phase }, { on := 8, ground := Ground.phase }, { on := 9, ground := Ground.phase }, { on := 10, ground := Ground.phase }, { on := 11, ground := Ground.phase }, { on := 12, ground := Ground.phase }, { on := 13, ground := Ground.phase }], guard := none }) (v := (.bool r)) rfl (by kernel_rfl) (by kernel_rfl) (by kernel_rfl) (fun _ _ _ h => h) (Or.inl ⟨by rfl, fun w' hS => by (try dsimp only at hS); go_simp⟩) (And.intro HT.out.box HS.out) ?_
    simp only [Act.put, List.setIfInBounds_toArray, List.set_cons_zero, List.set_cons_succ]
    refine wpAnyH_done (by kernel_rfl) ?_ _
    refine NoPanic.normal ?_
    clear P0 P1 HS
    go_wp2_with fail
    refine (answerOf_any x r _ (wt_page HO.out)).mono ?_
    rintro e wn ⟨rfl, rfl⟩
    have FIN : Hid (∃ b' R v, Ending.returned (.int .i64 (if r = true then 1 + x else 0)) = .returned (.int .i64 v) ∧ PSO B 1 a g y R v ∧ TS E wn zt b' R ∧ Mod (fun x => x = zt) w wn) := ⟨b, B, _, rfl, Or.inl ⟨rfl, rfl, x, yy, r, HO.out, rfl⟩, HT.out, HB.out.mod _⟩
    generalize (if r = true then 1 + x else 0) = va at *
    clear HO HT HB
    go_wp2
    go_ret
    exact FIN.out
  · have d1 : (k == 1) = false := by simp [k1]
    have HK1 : Hid (¬ k = 1) := k1
    have HK : Hid (k = 2 ∨ k = 3 ∨ k = 4) := right_k HRI.out k1
    clear k1
    go_wp2_with fail
    clear s0 s1 s2 s3
    generalize w.alloc (.cells #[.int .i64 k, .int .i64 a, .int .i64 g, .int .i64 y] 42) = wp at *
    refine (changeT_any E zt b B k a g y _ HK.out (fun x hx => Nat.lt_of_lt_of_le (hE x hx) HSZ.out) HT.out).mono ?_
    rintro e w2 ⟨b2, R, r, rfl, ho, ht, hm⟩
    have HO : Hid (ctO B k a g y R r) := ho
    replace HT : Hid (TS E w2 zt b2 R) := ht
    have HM : Hid (Mod (fun x => x = zt) w w2) := (HB.out.mod _).trans hm
    clear ho ht hm HS HB HSZ
    go_wp2_with fail
    refine (answerOf_any 0 r _ (by omega)).mono ?_
    rintro e w2 ⟨rfl, rfl⟩
    have FIN : Hid (∃ b' R v, Ending.returned (.int .i64 (if r = true then 1 + 0 else 0)) = .returned (.int .i64 v) ∧ PSO B k a g y R v ∧ TS E w2 zt b' R ∧ Mod (fun x => x = zt) w w2) := ⟨b2, R, _, rfl, Or.inr ⟨HK1.out, r, HO.out, by cases r <;> rfl⟩, HT.out, HM.out⟩
    generalize (if r = true then (1 : Int) + 0 else 0) = va at *
    clear HO HT HM
    go_wp2
    go_ret
    exact FIN.out
set_option maxHeartbeats 1600000 in
theorem playP_any (E : Nat → Prop) (zt : Nat) (b : BV) (B : BD) (k a g y : Int) (w : World) (hr : rightS k a g y) (hE : ∀ x, E x → x < w.heap.size) (h : TS E w zt b B) :
    Calls Try.prog 88 #[.agg #[.int .i64 k, .int .i64 a, .int .i64 g, .int .i64 y], .pointer (some ⟨zt, 0, none⟩)] w fun e w' => ∃ b' R v, e = .returned (.int .i64 v) ∧ PSO B k a g y R v ∧ TS E w' zt b' R ∧ Mod (fun x => x = zt) w w' := by
  have hA : Blw w (w.alloc (.cells #[.int .i64 k, .int .i64 a, .int .i64 g, .int .i64 y] 42)) := (Blw.refl _).alloc _
  have HT : Hid (TS E (w.alloc (.cells #[.int .i64 k, .int .i64 a, .int .i64 g, .int .i64 y] 42)) zt b B) := h.blw hA
  have HS : Hid (Row (w.alloc (.cells #[.int .i64 k, .int .i64 a, .int .i64 g, .int .i64 y] 42)) w.heap.size 4 (fun i => if i = 0 then .int .i64 k else if i = 1 then .int .i64 a else if i = 2 then .int .i64 g else .int .i64 y)) := box4 w _ _ _ _ 42
  have HB : Hid (Blw w (w.alloc (.cells #[.int .i64 k, .int .i64 a, .int .i64 g, .int .i64 y] 42))) := hA
  have HSZ : Hid (w.heap.size ≤ (w.alloc (.cells #[.int .i64 k, .int .i64 a, .int .i64 g, .int .i64 y] 42)).heap.size) := by show _ ≤ _; simp
  clear h hA
  go_enter Try.func88, Try.ntmps88
  obtain ⟨s0, s1, s2, s3⟩ := get4 HS.out
  go_wp2_with fail
  clear s0 s1 s2 s3
  generalize w.alloc (.cells #[.int .i64 k, .int .i64 a, .int .i64 g, .int .i64 y] 42) = wp at *
  refine (stepT_any E zt b B k a g y _ hr (fun x hx => Nat.lt_of_lt_of_le (hE x hx) HSZ.out) HT.out).mono ?_
  rintro e w2 ⟨b2, R, v, rfl, ho, ht, hm⟩
  have FIN : Hid (∃ b' R' v', Ending.returned (.int .i64 v) = .returned (.int .i64 v') ∧ PSO B k a g y R' v' ∧ TS E w2 zt b' R' ∧ Mod (fun x => x = zt) w w2) := ⟨b2, R, v, rfl, ho, ht, (HB.out.mod _).trans hm⟩
  clear ho ht hm HS HB HT HSZ
  go_wp2
  go_ret
  exact FIN.out
set_option maxRecDepth 10000 in
set_option maxHeartbeats 1600000 in
theorem answerP_any (E : Nat → Prop) (zt zf : Nat) (b : BV) (B : BD) (k a g y : Int) (w : World) (hE : ∀ x, E x → x < w.heap.size) (h : TS E w zt b B) (hf : Row w zf 1 (fun _ => .func (.func 88) #[] #[.pointer (some ⟨zt, 0, none⟩)])) :
    Calls Try.prog 146 #[.agg #[.int .i64 k, .int .i64 a, .int .i64 g, .int .i64 y], .pointer (some ⟨zf, 0, none⟩)] w fun e w' => ∃ b' R v, e = .returned (.int .i64 v) ∧ PSF B k a g y R v ∧ TS E w' zt b' R ∧ Mod (fun x => x = zt) w w' := by
  have hA : Blw w (w.alloc (.cells #[.int .i64 k, .int .i64 a, .int .i64 g, .int .i64 y] 42)) := (Blw.refl _).alloc _
  have HT : Hid (TS E (w.alloc (.cells #[.int .i64 k, .int .i64 a, .int .i64 g, .int .i64 y] 42)) zt b B) := h.blw hA
  have HS : Hid (Row (w.alloc (.cells #[.int .i64 k, .int .i64 a, .int .i64 g, .int .i64 y] 42)) w.heap.size 4 (fun i => if i = 0 then .int .i64 k else if i = 1 then .int .i64 a else if i = 2 then .int .i64 g else .int .i64 y)) := box4 w _ _ _ _ 42
  have HF : Hid (Row (w.alloc (.cells #[.int .i64 k, .int .i64 a, .int .i64 g, .int .i64 y] 42)) zf 1 (fun _ => .func (.func 88) #[] #[.pointer (some ⟨zt, 0, none⟩)])) := hf.blw hA
  have HB : Hid (Blw w (w.alloc (.cells #[.int .i64 k, .int .i64 a, .int .i64 g, .int .i64 y] 42))) := hA
  have HSZ : Hid (w.heap.size ≤ (w.alloc (.cells #[.int .i64 k, .int .i64 a, .int .i64 g, .int .i64 y] 42)).heap.size) := by show _ ≤ _; simp
  clear h hA hf
  go_enter Try.func146, Try.ntmps146
  obtain ⟨s0, s1, s2, s3⟩ := get4 HS.out
  go_wp2_with fail
  clear s0 s1 s2 s3
  generalize w.alloc (.cells #[.int .i64 k, .int .i64 a, .int .i64 g, .int .i64 y] 42) = wp at *
  refine (isStep_any k a g y _).mono ?_
  rintro e w1 ⟨r, rfl, hr, hb1⟩
  have HR : Hid (r = true ↔ rightS k a g y) := hr
  replace HT : Hid (TS E w1 zt b B) := HT.out.blw hb1
  replace HS : Hid (Row w1 w.heap.size 4 (fun i => if i = 0 then .int .i64 k else if i = 1 then .int .i64 a else if i = 2 then .int .i64 g else .int .i64 y)) := HS.out.blw hb1
  replace HF : Hid (Row w1 zf 1 (fun _ => .func (.func 88) #[] #[.pointer (some ⟨zt, 0, none⟩)])) := HF.out.blw hb1
  replace HB : Hid (Blw w w1) := HB.out.trans hb1
  replace HSZ : Hid (w.heap.size ≤ w1.heap.size) := Nat.le_trans HSZ.out hb1.size
  clear hr hb1
  cases r
  · have HN : Hid (¬ rightS k a g y) := fun q => by have := HR.out.2 q; simp at this
    have FIN : Hid (∃ b' R' v', Ending.returned (.int .i64 (-1)) = .returned (.int .i64 v') ∧ PSF B k a g y R' v' ∧ TS E w1 zt b' R' ∧ Mod (fun x => x = zt) w w1) := ⟨b, B, -1, rfl, Or.inl ⟨HN.out, rfl, rfl⟩, HT.out, HB.out.mod _⟩
    clear HR HT HS HF HB HSZ HN
    go_wp2
    go_ret
    exact FIN.out
  have HY : Hid (rightS k a g y) := HR.out.1 (by first | rfl | trivial)
  clear HR
  obtain ⟨s0, s1, s2, s3⟩ := get4 HS.out
  have hfc := HF.out.cell (i := 0) (by omega)
  go_wp2_with fail
  clear s0 s1 s2 s3 hfc
  refine (playP_any E zt b B k a g y _ HY.out (fun x hx => Nat.lt_of_lt_of_le (hE x hx) HSZ.out) HT.out).mono ?_
  rintro e w2 ⟨b2, R, v, rfl, ho, ht, hm⟩
  have FIN : Hid (∃ b' R' v', Ending.returned (.int .i64 v) = .returned (.int .i64 v') ∧ PSF B k a g y R' v' ∧ TS E w2 zt b' R' ∧ Mod (fun x => x = zt) w w2) := ⟨b2, R, v, rfl, Or.inr ⟨HY.out, ho⟩, ht, (HB.out.mod _).trans hm⟩
  clear ho ht hm HS HB HT HSZ HF HY
  go_wp2
  go_ret
  exact FIN.out
end Go.Proofs.Ytbpdopcdhnemfaa
/- Kept short ways: findShort, firstOf. -/
namespace Go.Proofs.Ytbpdopcdhnemfaa
open Go.RowKit
set_option linter.unusedSimpArgs false
set_option linter.unusedVariables false

/-- r is where a stands first among the n numbers f; -1 where it is none of them. -/
def IsPos (n : Nat) (f : Nat → Int) (a r : Int) : Prop := (∃ k : Nat, k < n ∧ r = k ∧ f k = a ∧ ∀ j, j < k → f j ≠ a) ∨ (r = -1 ∧ ∀ j, j < n → f j ≠ a)
theorem sameAt_any (x0 x1 x2 a : Int) (z : Nat) (w : World) (h : w.cell? ⟨z, 0, none⟩ = some (.int .i64 a)) :
    Calls Try.prog 165 #[.agg #[.int .i64 x0, .int .i64 x1, .int .i64 x2], .pointer (some ⟨z, 0, none⟩)] w fun e w' => e = .returned (.bool (x0 == a)) ∧ Blw w w' := by
  have hb : Blw w (w.alloc (.cells #[.int .i64 x0, .int .i64 x1, .int .i64 x2] 129)) := (Blw.refl _).alloc _
  have h0 := hb.cell h
  clear h
  go_enter Try.func165, Try.ntmps165
  go_wp2
  go_ret
  exact ⟨rfl, hb⟩
set_option maxRecDepth 10000 in
set_option maxHeartbeats 1600000 in
theorem indexSh_any (ao : Option Addr) (c0 n : Nat) (F : Nat → Nat → Int) (a : Int) (z : Nat) (Y : Nat → Prop) (w : World) (h : KAt 3 Y w ao n F) (hz : w.cell? ⟨z, 0, none⟩ = some (.int .i64 a)) :
    Calls Try.prog 164 #[.slice ao n c0, .func (.func 165) #[] #[.pointer (some ⟨z, 0, none⟩)]] w fun e w' => ∃ r : Int, e = .returned (.int .i64 r) ∧ IsPos n (fun i => F i 0) a r ∧ Blw w w' := by
  have hn := h.1
  have H : Hid (KAt 3 Y w ao n F) := h
  have HZ : Hid (w.cell? ⟨z, 0, none⟩ = some (.int .i64 a)) := hz
  clear h hz
  go_enter Try.func164, Try.ntmps164
  go_wp2_with fail
  go_loopw [8] (fun i wr => ∃ j : Nat, j ≤ n ∧ i = .int .i64 j ∧ (∀ t, t < j → F t 0 ≠ a) ∧ Blw w wr) (fun i _ => n - (intOf i).toNat)
  case atStart => exact ⟨0, Nat.zero_le _, rfl, fun t ht => absurd ht (Nat.not_lt_zero _), Blw.refl _⟩
  case round =>
    obtain ⟨j, hj, rfl, hok, hb⟩ := hrel
    have HO : Hid (∀ t, t < j → F t 0 ≠ a) := hok
    have HB : Hid (Blw w wr) := hb
    clear hok hb
    by_cases hlt : j < n
    · obtain ⟨b, o, e, -, q⟩ := (H.out.blw HB.out).2 j hlt
      subst e
      have q0 := q 0 (by omega)
      have q1 := q 1 (by omega)
      have q2 := q 2 (by omega)
      rw [Nat.add_zero] at q0
      clear q
      go_wp2_with fail
      clear q0 q1 q2
      refine (sameAt_any (F j 0) (F j 1) (F j 2) a z _ (HB.out.cell HZ.out)).mono ?_
      rintro e w1 ⟨rfl, hb1⟩
      replace HB : Hid (Blw w w1) := HB.out.trans hb1
      clear hb1
      by_cases hf : F j 0 = a
      · have HN : Hid (IsPos n (fun i => F i 0) a (j : Int)) := Or.inl ⟨j, hlt, rfl, hf, HO.out⟩
        have hq : (F j 0 == a) = true := by simp [hf]
        rw [hq]
        clear HO hf hq
        go_wp2
        exact bodyPost_ret (v := .int .i64 (j : Int)) (by simp [results, Try.results164, go_sem]) rfl ⟨_, rfl, HN.out, HB.out⟩
      · have HN : Hid (∀ t, t < j + 1 → F t 0 ≠ a) := fun t ht => by
          by_cases e : t = j
          · subst e; exact hf
          · exact HO.out t (by omega)
        have hq : (F j 0 == a) = false := by simp [hf]
        rw [hq]
        clear HO hf hq
        go_wp2
        go_roundw
        case rel => exact ⟨j + 1, by omega, by go_num, HN.out, HB.out⟩
        case measure => simp [intOf]; omega
    · obtain rfl : j = n := by omega
      have HN : Hid (IsPos j (fun i => F i 0) a (-1 : Int)) := Or.inr ⟨rfl, HO.out⟩
      clear HO
      go_wp2
      exact bodyPost_ret (v := .int .i64 (-1)) (by simp [results, Try.results164, go_sem]) rfl ⟨_, rfl, HN.out, HB.out⟩
set_option maxHeartbeats 800000 in
theorem findShort_any (ao : Option Addr) (c0 n : Nat) (F : Nat → Nat → Int) (a : Int) (Y : Nat → Prop) (w : World) (h : KAt 3 Y w ao n F) :
    Calls Try.prog 102 #[.slice ao n c0, .int .i64 a] w fun e w' => ∃ r : Int, e = .returned (.int .i64 r) ∧ IsPos n (fun i => F i 0) a r ∧ Blw w w' := by
  have hb : Blw w (w.alloc (.cells #[.int .i64 a] 3)) := (Blw.refl _).alloc _
  have H : Hid (KAt 3 Y (w.alloc (.cells #[.int .i64 a] 3)) ao n F) := h.blw hb
  have HZ : Hid ((w.alloc (.cells #[.int .i64 a] 3)).cell? ⟨w.heap.size, 0, none⟩ = some (.int .i64 a)) := (box1_cell w _ 3)
  have HB : Hid (Blw w (w.alloc (.cells #[.int .i64 a] 3))) := hb
  clear h hb
  go_enter Try.func102, Try.ntmps102
  go_wp2_with fail
  refine (indexSh_any ao c0 n F a _ Y _ H.out HZ.out).mono ?_
  rintro e w1 ⟨r, rfl, hr, hb1⟩
  have HR : Hid (IsPos n (fun i => F i 0) a r) := hr
  replace HB : Hid (Blw w w1) := HB.out.trans hb1
  clear hr hb1
  go_wp2
  exact bodyPost_ret (v := .int .i64 r) (by simp [results, Try.results102, go_sem]) rfl ⟨_, rfl, HR.out, HB.out⟩
/-- A slice's address and room: none and no room, or the head of a block. -/
def Room (ao : Option Addr) (n c : Nat) : Prop := (ao = none ∧ n = 0 ∧ c = 0) ∨ (∃ g, ao = some ⟨g, 0, none⟩ ∧ n ≤ c)
theorem firstOf_any (ao : Option Addr) (n c k : Nat) (w : World) (hk : k ≤ n) (hr : Room ao n c) (hc : c ≤ 9223372036854775807) :
    Calls Try.prog 188 #[.slice ao n c, .int .i64 k] w fun e w' => e = .returned (.slice ao k k) ∧ Blw w w' := by
  rcases hr with ⟨rfl, rfl, rfl⟩ | ⟨g, rfl, hnc⟩
  · obtain rfl : k = 0 := by omega
    go_enter Try.func188, Try.ntmps188
    go_wp2
    go_ret
    exact ⟨rfl, Blw.refl _⟩
  · have h1 : (k : Int) ≤ c := by omega
    have h2 : (0 : Int) ≤ k := by omega
    go_enter Try.func188, Try.ntmps188
    go_wp2
    go_ret
    exact ⟨by simp, Blw.refl _⟩
end Go.Proofs.Ytbpdopcdhnemfaa
/- Kept short ways: what append leaves of them. -/
namespace Go.Proofs.Ytbpdopcdhnemfaa
open Go.RowKit
set_option linter.unusedSimpArgs false
set_option linter.unusedVariables false

def catK (k : Nat) (F G : Nat → Nat → Int) : Nat → Nat → Int := fun i c => if i < k then F i c else G (i - k) c
theorem cat_kc (K k : Nat) (hK : 0 < K) (F G : Nat → Nat → Int) (j : Nat) : cat (k * K) (kc K F) (kc K G) j = kc K (catK k F G) j := by
  unfold cat kc catK
  by_cases h : j < k * K
  · rw [if_pos h, if_pos (Nat.div_lt_of_lt_mul (by rw [Nat.mul_comm]; exact h))]
  · have h1 : ¬ j / K < k := fun q => h (by have := Nat.lt_mul_of_div_lt q hK; rw [Nat.mul_comm]; rw [Nat.mul_comm] at this; exact Nat.mul_comm K k ▸ this)
    rw [if_neg h, if_neg h1]
    obtain ⟨q, rfl⟩ : ∃ q, j = k * K + q := ⟨j - k * K, by omega⟩
    rw [Nat.add_sub_cancel_left, Nat.mul_comm k K, Nat.mul_add_div hK, Nat.mul_add_mod, Nat.add_sub_cancel_left]
theorem Buf.ways {X : Nat → Prop} {w : World} {v : Value} {n : Nat} {F : Nat → Nat → Int} (h : Buf 129 3 X w v n (kc 3 F)) (hn : n ≤ 1048576) :
    ∃ ao cap, v = .slice ao n cap ∧ Room ao n cap ∧ cap ≤ 9223372036854775807 ∧ KOwn 3 X w ao n F := by
  rcases h.1.2 with ⟨rfl, rfl⟩ | ⟨g, cap, cur, rfl, _, hb, h1, h2, h3, h4⟩
  · exact ⟨none, 0, rfl, Or.inl ⟨rfl, rfl, rfl⟩, by omega, KOwn.nil _ _ _ _ _⟩
  · refine ⟨_, cap, rfl, Or.inr ⟨g, rfl, h1⟩, by simp only [maxLen] at h2; omega, by omega, fun hn => ⟨g, h.2 g rfl, rfl, cur, 129, hb, ?_, fun i hi => ?_⟩⟩
    · rw [h3]; exact Nat.mul_le_mul_right _ h1
    · have := congrArg (fun l => l[i]?) h4
      simp [hi] at this
      exact this
theorem kc_one (F : Nat → Nat → Int) (j : Nat) : (kc 3 F j).oneCell' = true := rfl
/-- Ways appended to ways of a list that has no room: the old ones where none are appended, else new ones. -/
theorem tail_append {X : Nat → Prop} {w : World} {g k : Nat} (ad : Addr) (m cc : Nat) {F G : Nat → Nat → Int} (hF : KOwn 3 X w (some ⟨g, 0, none⟩) k F) (hG : ∀ j, j < m * 3 → w.cell? (ad.add j) = some (kc 3 G j)) (hb : k + m ≤ 1000) :
    ∃ a' c' w', (Builtin.append_ #[30, 30] 30 #[.slice (some ⟨g, 0, none⟩) k k, .slice (some ad) m cc]).run Try.prog w = .ok (.slice a' (k + m) c') w' ∧ Blw w w' ∧ KOwn 3 (fun b => X b ∨ (w.heap.size ≤ b ∧ b < w'.heap.size)) w' a' (k + m) (catK k F G) ∧ Room a' (k + m) c' ∧ c' ≤ 9223372036854775807 := by
  obtain ⟨i0, hi, hz0, hz1, hz2⟩ := info_parts infoSh
  by_cases hm : m = 0
  · subst hm
    have h := run_append_room_cells (P := Try.prog) (w := w) 30 30 129 i0 Try.underlying30 hi g 0 k k ad 0 cc [] (by simp) (by simp) (by simp) (by omega) (by simp) (by simp)
    refine ⟨some ⟨g, 0, none⟩, k, w, h, Blw.refl _, (hF.mono (fun b hx => Or.inl hx)).congr (by omega) (fun i c hi _ => by unfold catK; rw [if_pos (by omega)]), Or.inr ⟨g, rfl, by omega⟩, by omega⟩
  · have hold : ∀ j u, ((List.range (k * 3)).map (kc 3 F))[j]? = some u → w.cell? ((⟨g, 0, none⟩ : Addr).add j) = some u := fun j u hu => by
      have hj : j < k * 3 := by
        have := (List.getElem?_eq_some_iff.1 hu).1
        simpa using this
      obtain ⟨b, -, e, r⟩ := hF.2 (by omega)
      cases e
      rw [Addr.add_lit, Nat.zero_add, r.cell hj]
      simpa [hj] using hu
    have hnew : ∀ j u, ((List.range (m * 3)).map (kc 3 G))[j]? = some u → w.cell? (ad.add j) = some u := fun j u hu => by
      have hj : j < m * 3 := by
        have := (List.getElem?_eq_some_iff.1 hu).1
        simpa using this
      rw [hG j hj]
      simpa [hj] using hu
    obtain ⟨v', w', hr, h2, h3⟩ := run_append_arg_grows (P := Try.prog) (w := w) 30 30 129 i0 _ 3 24 Try.underlying30 hi hz0 hz1 hz2 (by rfl) (by omega) ⟨g, 0, none⟩ k k _ (by simp) hold ad m cc _ (by simp) hnew (by omega) (by simp only [maxLen]; omega) (by omega)
    rw [cat_list, ← Nat.add_mul] at h2
    have hbl : Blw w w' := by
      have hm : Mod (fun _ => False) w w' := ⟨h3.os, h3.tape, h3.output, h3.size, fun q hq _ => h3.block q hq (by simp)⟩
      exact Mod.blw (Blw.refl _) hm (fun _ h => h.elim)
    have hB : Buf 129 3 (fun b => X b ∨ (w.heap.size ≤ b ∧ b < w'.heap.size)) w' v' (k + m) (cat (k * 3) (kc 3 F) (kc 3 G)) := by
      refine ⟨⟨h2.1, ?_⟩, fun q hq => ?_⟩
      · rcases h2.2 with e | ⟨g', cap', cur, e1, _, r⟩
        · exact Or.inl e
        · exact Or.inr ⟨g', cap', cur, e1, Nat.zero_le _, r⟩
      · rcases h2.2 with ⟨e1, -⟩ | ⟨g', cap', cur, e1, hge, hb', _⟩
        · rw [e1] at hq; simp [Value.ownBlock] at hq
        · rw [e1] at hq
          simp [Value.ownBlock] at hq
          subst hq
          exact Or.inr ⟨hge, (Array.getElem?_eq_some_iff.1 hb').1⟩
    have hB2 := hB.congr (G := kc 3 (catK k F G)) (fun i _ => cat_kc 3 k (by omega) F G i)
    obtain ⟨a0, cap, rfl, hR, hcap, hK⟩ := hB2.ways (by omega)
    exact ⟨a0, cap, w', hr, hbl, hK, hR, hcap⟩
end Go.Proofs.Ytbpdopcdhnemfaa
/- A short way taken out of the kept ones: the program. -/
namespace Go.Proofs.Ytbpdopcdhnemfaa
open Go.RowKit
set_option linter.unusedSimpArgs false
set_option linter.unusedVariables false

def dropK (k : Nat) (F : Nat → Nat → Int) : Nat → Nat → Int := fun i c => if i < k then F i c else F (i + 1) c
theorem IsPos.yes {n : Nat} {f : Nat → Int} {a r : Int} {k : Nat} (h : IsPos n f a r) (hk : k < n) (h1 : f k = a) (h2 : ∀ j, j < k → f j ≠ a) : r = k := by
  rcases h with ⟨q, hq, rfl, e, hl⟩ | ⟨rfl, hno⟩
  · rcases Nat.lt_trichotomy q k with x | x | x
    · exact absurd e (h2 q x)
    · omega
    · exact absurd h1 (hl k x)
  · exact absurd h1 (hno k hk)
theorem IsPos.no {n : Nat} {f : Nat → Int} {a r : Int} (h : IsPos n f a r) (h2 : ∀ j, j < n → f j ≠ a) : r = -1 := by
  rcases h with ⟨q, hq, rfl, e, hl⟩ | ⟨rfl, hno⟩
  · exact absurd e (h2 q hq)
  · rfl
theorem row_front {w : World} {b n m : Nat} {F : Nat → Value} (r : Row w b n F) (h : m ≤ n) : Row w b m F :=
  let ⟨c, t, h1, h2, h3⟩ := r
  ⟨c, t, h1, Nat.le_trans h h2, fun i hi => h3 i (Nat.lt_of_lt_of_le hi h)⟩
/-- What the append of take answers. -/
theorem cut_append {X : Nat → Prop} {w : World} {g k n q : Nat} {F : Nat → Nat → Int} (h : KOwn 3 X w (some ⟨g, 0, none⟩) n F) (hk : k < n) (hn : n ≤ 1000) (hq : n ≤ q) :
    ∃ a' c' w', (Builtin.append_ #[30, 30] 30 #[.slice (some ⟨g, 0, none⟩) k k, sliced (some ⟨g, 0, none⟩) (k + 1) n q 3]).run Try.prog w = .ok (.slice a' (n - 1) c') w' ∧ Blw w w' ∧ KOwn 3 (fun b => X b ∨ (w.heap.size ≤ b ∧ b < w'.heap.size)) w' a' (n - 1) (dropK k F) ∧ Room a' (n - 1) c' ∧ c' ≤ 9223372036854775807 := by
  obtain ⟨b, hx, e, r⟩ := h.2 (by omega)
  cases e
  have hF : KOwn 3 X w (some ⟨g, 0, none⟩) k F := ⟨by omega, fun _ => ⟨g, hx, rfl, row_front r (Nat.mul_le_mul_right 3 (Nat.le_of_lt hk))⟩⟩
  have key : ∀ ad cc, (n - (k + 1) ≠ 0 → ad = (⟨g, (k + 1) * 3, none⟩ : Addr)) → ∃ a' c' w', (Builtin.append_ #[30, 30] 30 #[.slice (some ⟨g, 0, none⟩) k k, .slice (some ad) (n - (k + 1)) cc]).run Try.prog w = .ok (.slice a' (n - 1) c') w' ∧ Blw w w' ∧ KOwn 3 (fun b => X b ∨ (w.heap.size ≤ b ∧ b < w'.heap.size)) w' a' (n - 1) (dropK k F) ∧ Room a' (n - 1) c' ∧ c' ≤ 9223372036854775807 := by
    intro ad cc had
    obtain ⟨a', c', w', h1, h2, h3, h4, h5⟩ := tail_append (w := w) ad (n - (k + 1)) cc (G := fun i c => F (k + 1 + i) c) hF (fun j hj => by
      rw [had (by omega), Addr.add_lit]
      rw [r.cell (i := (k + 1) * 3 + j) (by omega)]
      unfold kc
      rw [show ((k + 1) * 3 + j) / 3 = k + 1 + j / 3 by omega, show ((k + 1) * 3 + j) % 3 = j % 3 by omega]) (by omega)
    rw [show k + (n - (k + 1)) = n - 1 by omega] at h1 h3 h4
    exact ⟨a', c', w', h1, h2, h3.congr (by omega) (fun i c hi _ => by
      unfold catK dropK
      by_cases hh : i < k
      · rw [if_pos hh, if_pos hh]
      · rw [if_neg hh, if_neg hh]
        show F (k + 1 + (i - k)) c = _
        rw [show k + 1 + (i - k) = i + 1 by omega]), h4, h5⟩
  unfold sliced
  by_cases hc : q = k + 1
  · rw [if_pos hc]
    exact key _ _ (by omega)
  · rw [if_neg hc]
    show ∃ a' c' w', (Builtin.append_ #[30, 30] 30 #[.slice (some ⟨g, 0, none⟩) k k, .slice (some ((⟨g, 0, none⟩ : Addr).add ((k + 1) * 3))) (n - (k + 1)) (q - (k + 1))]).run Try.prog w = _ ∧ _
    rw [Addr.add_lit, Nat.zero_add]
    exact key _ _ (fun _ => rfl)

theorem Mod.of_two {z B : Nat} {w w6 w7 w8 : World} (h6 : Blw w w6) (h7 : Mod (fun x => x = z) w6 w7) (h8 : Mod (fun x => x = B) w7 w8) (hB : w.heap.size ≤ B := by omega) : Mod (fun x => x = z) w w8 :=
  ⟨h8.os.trans (h7.os.trans h6.os), h8.tape.trans (h7.tape.trans h6.tape), h8.output.trans (h7.output.trans h6.output), Nat.le_trans h6.size (Nat.le_trans h7.size h8.size), fun q hq hx => (h8.block q (Nat.lt_of_lt_of_le hq (Nat.le_trans h6.size h7.size)) (by omega)).trans ((h7.block q (Nat.lt_of_lt_of_le hq h6.size) hx).trans (h6.block q hq))⟩
theorem box3s (w : World) (a b c : Value) (t : TypeId) : Row (w.alloc (.cells #[a, b, c] t)) w.heap.size 3 (fun i => if i = 0 then a else if i = 1 then b else c) :=
  ⟨_, t, heap_alloc_new _ _, by simp, fun i hi => by
    match i, hi with
    | 0, _ => rfl
    | 1, _ => rfl
    | 2, _ => rfl⟩
theorem get3s {w : World} {B : Nat} {a b c : Value} (r : Row w B 3 (fun i => if i = 0 then a else if i = 1 then b else c)) : w.cell? ⟨B, 0, none⟩ = some a ∧ w.cell? ⟨B, 1, none⟩ = some b ∧ w.cell? ⟨B, 2, none⟩ = some c :=
  ⟨r.cell (i := 0) (by omega), r.cell (i := 1) (by omega), r.cell (i := 2) (by omega)⟩
theorem set3_blw {w0 w : World} (h : Blw w0 w) {B : Nat} (hB : w0.heap.size ≤ B) (a b c : Value) : Blw w0 (((w.setCell ⟨B, 0, none⟩ a).setCell ⟨B, 1, none⟩ b).setCell ⟨B, 2, none⟩ c) :=
  Mod.blw (X := fun x => x = B) (Mod.blw (X := fun x => x = B) (Mod.blw (X := fun x => x = B) h (Mod.setCell (X := fun x => x = B) _ (p := ⟨B, 0, none⟩) rfl _) (by omega)) (Mod.setCell (X := fun x => x = B) _ (p := ⟨B, 1, none⟩) rfl _) (by omega)) (Mod.setCell (X := fun x => x = B) _ (p := ⟨B, 2, none⟩) rfl _) (by omega)
set_option maxRecDepth 10000 in
set_option maxHeartbeats 1600000 in
theorem take_no (zw : Nat) (a : Int) (v : KV) (D : KD) (X : Nat → Prop) (w : World) (hno : ∀ j, j < D.n → D.F j 0 ≠ a) (hW : Row w zw 4 (kb v D)) (hK : KOwn 3 X w v.a D.n D.F) :
    Calls Try.prog 149 #[.pointer (some ⟨zw, 0, none⟩), .int .i64 a] w fun e w' => e = .returned (.tuple #[.agg #[.int .i64 0, .int .i64 0, .int .i64 0], .bool false]) ∧ Blw w w' := by
  have hb : Blw w (w.alloc (.cells #[.int .i64 0, .int .i64 0, .int .i64 0] 129)) := (Blw.refl _).alloc _
  have HK : Hid (KOwn 3 X (w.alloc (.cells #[.int .i64 0, .int .i64 0, .int .i64 0] 129)) v.a D.n D.F) := hK.blw hb
  obtain ⟨-, -, c2, -⟩ := get4 (hW.blw hb)
  have rT := box3s w (.int .i64 0) (.int .i64 0) (.int .i64 0) 129
  have HT : Hid (Row (w.alloc (.cells #[.int .i64 0, .int .i64 0, .int .i64 0] 129)) w.heap.size 3 (fun i => if i = 0 then .int .i64 0 else if i = 1 then .int .i64 0 else .int .i64 0)) := rT
  have HB : Hid (Blw w (w.alloc (.cells #[.int .i64 0, .int .i64 0, .int .i64 0] 129))) := hb
  clear hW hK hb rT
  go_enter Try.func149, Try.ntmps149
  go_wp2_with fail
  clear c2
  refine (findShort_any v.a v.q D.n D.F a X _ HK.out.at).mono ?_
  rintro e w1 ⟨r, rfl, hr, hb1⟩
  have h0 : r < 0 := by have := hr.no hno; omega
  replace HB : Hid (Blw w w1) := HB.out.trans hb1
  replace HT : Hid (Row w1 w.heap.size 3 (fun i => if i = 0 then .int .i64 0 else if i = 1 then .int .i64 0 else .int .i64 0)) := HT.out.blw hb1
  clear hr hb1 HK hno
  obtain ⟨t0, t1, t2⟩ := get3s HT.out
  have f0 := HT.out.frozen 0
  have f1 := HT.out.frozen 1
  have f2 := HT.out.frozen 2
  have HN : Hid (Blw w (((w1.setCell ⟨w.heap.size, 0, none⟩ (.int .i64 0)).setCell ⟨w.heap.size, 1, none⟩ (.int .i64 0)).setCell ⟨w.heap.size, 2, none⟩ (.int .i64 0))) := set3_blw HB.out (Nat.le_refl _) _ _ _
  clear HT HB
  go_wp2
  exact bodyPost_ret (v := .tuple #[.agg #[.int .i64 0, .int .i64 0, .int .i64 0], .bool false]) (by simp [results, Try.results149, go_sem, t0, t1, t2]) rfl ⟨rfl, HN.out⟩

set_option maxRecDepth 10000 in
set_option maxHeartbeats 3200000 in
theorem take_yes (zw k : Nat) (a : Int) (v : KV) (D : KD) (X : Nat → Prop) (w : World) (hX : ∀ b, X b → b ≠ zw) (hXl : ∀ b, X b → b < w.heap.size) (hk : k < D.n) (hka : D.F k 0 = a) (hkl : ∀ j, j < k → D.F j 0 ≠ a) (hn : D.n ≤ 1000) (hR : Room v.a D.n v.q) (hq : v.q ≤ 9223372036854775807) (hW : Row w zw 4 (kb v D)) (hK : KOwn 3 X w v.a D.n D.F) :
    Calls Try.prog 149 #[.pointer (some ⟨zw, 0, none⟩), .int .i64 a] w fun e w' => e = .returned (.tuple #[.agg #[.int .i64 (D.F k 0), .int .i64 (D.F k 1), .int .i64 (D.F k 2)], .bool true]) ∧ ∃ a' c', Row w' zw 4 (kb ⟨v.b, a', c'⟩ ⟨D.B, D.n - 1, dropK k D.F, D.h⟩) ∧ KOwn 3 (fun b => X b ∨ (w.heap.size ≤ b ∧ b < w'.heap.size)) w' a' (D.n - 1) (dropK k D.F) ∧ Room a' (D.n - 1) c' ∧ c' ≤ 9223372036854775807 ∧ Mod (fun x => x = zw) w w' := by
  obtain ⟨g, hg, hnq⟩ : ∃ g, v.a = some ⟨g, 0, none⟩ ∧ D.n ≤ v.q := by
    rcases hR with ⟨-, q, -⟩ | ⟨g, e, q⟩
    · omega
    · exact ⟨g, e, q⟩
  clear hR
  have HXL : Hid (∀ b, X b → b < w.heap.size) := hXl
  clear hXl
  have hzl := hW.lt
  have hwk : IntKind.i64.wrap ((k : Int) + 1) = (k : Int) + 1 := by rw [IntKind.wrap_i64] <;> omega
  have hb : Blw w (w.alloc (.cells #[.int .i64 0, .int .i64 0, .int .i64 0] 129)) := (Blw.refl _).alloc _
  have HK : Hid (KOwn 3 X w v.a D.n D.F) := hK
  have HW : Hid (Row w zw 4 (kb v D)) := hW
  obtain ⟨-, -, c2, -⟩ := get4 (hW.blw hb)
  rw [hg] at c2
  have HKA : Hid (KOwn 3 X (w.alloc (.cells #[.int .i64 0, .int .i64 0, .int .i64 0] 129)) (some ⟨g, 0, none⟩) D.n D.F) := by have := hK.blw hb; rw [hg] at this; exact this
  have HT : Hid (Row (w.alloc (.cells #[.int .i64 0, .int .i64 0, .int .i64 0] 129)) w.heap.size 3 (fun i => if i = 0 then .int .i64 0 else if i = 1 then .int .i64 0 else .int .i64 0)) := box3s w (.int .i64 0) (.int .i64 0) (.int .i64 0) 129
  have HB : Hid (Blw w (w.alloc (.cells #[.int .i64 0, .int .i64 0, .int .i64 0] 129))) := hb
  clear hW hK hb
  go_enter Try.func149, Try.ntmps149
  go_wp2_with fail
  clear c2
  refine (findShort_any (some ⟨g, 0, none⟩) v.q D.n D.F a X _ HKA.out.at).mono ?_
  rintro e w1 ⟨r, rfl, hr, hb1⟩
  obtain rfl := hr.yes hk hka hkl
  replace HB : Hid (Blw w w1) := HB.out.trans hb1
  replace HT : Hid (Row w1 w.heap.size 3 (fun i => if i = 0 then .int .i64 0 else if i = 1 then .int .i64 0 else .int .i64 0)) := HT.out.blw hb1
  clear hr hb1 HKA hkl hka
  obtain ⟨-, -, c2, -⟩ := get4 (HW.out.blw HB.out)
  rw [hg] at c2
  obtain ⟨g', hgx, e, rk⟩ := (HK.out.blw HB.out).2 (by omega)
  rw [hg] at e
  cases e
  have q0 := k_get rk hk (c := 0) (by omega)
  have q1 := k_get rk hk (c := 1) (by omega)
  have q2 := k_get rk hk (c := 2) (by omega)
  rw [Nat.add_zero] at q0
  have HGX : Hid (X g) := hgx
  clear rk hgx
  have hk' : (k : Int) < D.n := by omega
  have hk1 : (k : Int) + 1 ≤ D.n := by omega
  have hk2 : (0 : Int) ≤ (k : Int) + 1 := by omega
  have hk3 : ((k : Int) + 1).toNat = k + 1 := by omega
  obtain ⟨T, HT0⟩ : ∃ T, Hid (T = sliced (some ⟨g, 0, none⟩) (k + 1) D.n v.q 3) := ⟨_, rfl⟩
  have hb4 : Blw w1 (w1.alloc (.cells #[.int .i64 (D.F k 0), .int .i64 (D.F k 1), .int .i64 (D.F k 2)] 129)).drew := ((Blw.refl _).alloc _).drew
  have HB4 : Hid (Blw w (w1.alloc (.cells #[.int .i64 (D.F k 0), .int .i64 (D.F k 1), .int .i64 (D.F k 2)] 129)).drew) := HB.out.trans hb4
  have HT4 : Hid (Row (w1.alloc (.cells #[.int .i64 (D.F k 0), .int .i64 (D.F k 1), .int .i64 (D.F k 2)] 129)).drew w.heap.size 3 (fun i => if i = 0 then .int .i64 0 else if i = 1 then .int .i64 0 else .int .i64 0)) := HT.out.blw hb4
  have HF4 : Hid (Row (w1.alloc (.cells #[.int .i64 (D.F k 0), .int .i64 (D.F k 1), .int .i64 (D.F k 2)] 129)).drew w1.heap.size 3 (fun i => if i = 0 then .int .i64 (D.F k 0) else if i = 1 then .int .i64 (D.F k 1) else .int .i64 (D.F k 2))) := (box3s w1 _ _ _ 129).blw ((Blw.refl _).drew)
  have HSZ : Hid (w.heap.size < w1.heap.size ∧ w1.heap.size < (w1.alloc (.cells #[.int .i64 (D.F k 0), .int .i64 (D.F k 1), .int .i64 (D.F k 2)] 129)).drew.heap.size) := ⟨HT.out.lt, HF4.out.lt⟩
  clear hb4
  go_upto_region 5 with fail
  clear q0 q1 q2 c2
  have HR : Hid (Row (w1.alloc (.cells #[.int .i64 (D.F k 0), .int .i64 (D.F k 1), .int .i64 (D.F k 2)] 129)).drew zw 4 (kb v D)) := HW.out.blw HB4.out
  have P0 : ∀ w', Row w' zw 4 (kb v D) → w'.cell? ⟨zw, 2, none⟩ = some (.slice (some ⟨g, 0, none⟩) D.n v.q) := fun w' hh => by have := (get4 hh).2.2.1; rw [hg] at this; exact this
  refine wp_region_noPanic ?_
  refine wp_region_held_drew (S := fun _ => True) (by kernel_rfl) trivial (fun hB => ?_)
  clear hB
  generalize (w1.alloc (.cells #[.int .i64 (D.F k 0), .int .i64 (D.F k 1), .int .i64 (D.F k 2)] 129)).drew = wd at *
  refine wpAnyH_take (i := 0) (oi := { dst := some 24, op := Op.move (Operand.tmp 0), type := 180, pos := _, after := #[], guard := none }) (v := (.pointer (some ⟨zw, 0, none⟩))) rfl (by kernel_rfl) (by kernel_rfl) (by kernel_rfl) (fun _ _ _ h => h) (Or.inl ⟨by rfl, fun w' hS => by (try dsimp only at hS); go_simp⟩) trivial ?_
  simp only [Act.put, List.setIfInBounds_toArray, List.set_cons_zero, List.set_cons_succ]
  refine wpAnyH_take (i := 1) (oi := { dst := some 25, op := Op.move (Operand.tmp 0), type := 180, pos := _, after := #[], guard := none }) (v := (.pointer (some ⟨zw, 0, none⟩))) rfl (by kernel_rfl) (by kernel_rfl) (by kernel_rfl) (fun _ _ _ h => h) (Or.inl ⟨by rfl, fun w' hS => by (try dsimp only at hS); go_simp⟩) trivial ?_
  simp only [Act.put, List.setIfInBounds_toArray, List.set_cons_zero, List.set_cons_succ]
  refine wpAnyH_take (i := 5) (oi := { dst := some 29, op := Op.move (Operand.tmp 6), type := 3, pos := _, after := #[], guard := none }) (v := (.int .i64 k)) rfl (by kernel_rfl) (by kernel_rfl) (by kernel_rfl) (fun _ _ _ h => h) (Or.inl ⟨by rfl, fun w' hS => by (try dsimp only at hS); go_simp⟩) trivial ?_
  simp only [Act.put, List.setIfInBounds_toArray, List.set_cons_zero, List.set_cons_succ]
  refine wpAnyH_take (i := 7) (oi := { dst := some 31, op := Op.move (Operand.tmp 0), type := 180, pos := _, after := #[], guard := none }) (v := (.pointer (some ⟨zw, 0, none⟩))) rfl (by kernel_rfl) (by kernel_rfl) (by kernel_rfl) (fun _ _ _ h => h) (Or.inl ⟨by rfl, fun w' hS => by (try dsimp only at hS); go_simp⟩) trivial ?_
  simp only [Act.put, List.setIfInBounds_toArray, List.set_cons_zero, List.set_cons_succ]
  refine wpAnyH_take (i := 11) (oi := { dst := some 35, op := Op.move (Operand.tmp 6), type := 3, pos := _, after := #[], guard := none }) (v := (.int .i64 k)) rfl (by kernel_rfl) (by kernel_rfl) (by kernel_rfl) (fun _ _ _ h => h) (Or.inl ⟨by rfl, fun w' hS => by (try dsimp only at hS); go_simp⟩) trivial ?_
  simp only [Act.put, List.setIfInBounds_toArray, List.set_cons_zero, List.set_cons_succ]
  refine wpAnyH_take (i := 2) (oi := { dst := some 26, op := Op.nilCheck (Operand.tmp 25), type := 0, pos := _, after := #[{ on := 1, ground := Ground.data }], guard := none }) (v := (.pointer (some ⟨zw, 0, none⟩))) rfl (by kernel_rfl) (by kernel_rfl) (by kernel_rfl) (fun _ _ _ h => h) (Or.inl ⟨by rfl, fun w' hS => by (try dsimp only at hS); go_simp⟩) trivial ?_
  simp only [Act.put, List.setIfInBounds_toArray, List.set_cons_zero, List.set_cons_succ]
  refine wpAnyH_take (i := 8) (oi := { dst := some 32, op := Op.nilCheck (Operand.tmp 31), type := 0, pos := _, after := #[{ on := 7, ground := Ground.data }], guard := none }) (v := (.pointer (some ⟨zw, 0, none⟩))) rfl (by kernel_rfl) (by kernel_rfl) (by kernel_rfl) (fun _ _ _ h => h) (Or.inl ⟨by rfl, fun w' hS => by (try dsimp only at hS); go_simp⟩) trivial ?_
  simp only [Act.put, List.setIfInBounds_toArray, List.set_cons_zero, List.set_cons_succ]
  refine wpAnyH_take (i := 12) (oi := { dst := some 36, op := Op.binOp BinOp.add 3 (Operand.tmp 35) (Operand.const (Value.int IntKind.i64 1)) 3, type := 3, pos := _, after := #[{ on := 11, ground := Ground.data }], guard := none }) (v := (.int .i64 (k + 1))) rfl (by kernel_rfl) (by kernel_rfl) (by kernel_rfl) (fun _ _ _ h => h) (Or.inl ⟨by rfl, fun w' hS => by (try dsimp only at hS); go_simp⟩) trivial ?_
  simp only [Act.put, List.setIfInBounds_toArray, List.set_cons_zero, List.set_cons_succ]
  refine wpAnyH_take (i := 3) (oi := { dst := some 27, op := Op.fieldAddr 32 (Operand.tmp 26) 1, type := 0, pos := _, after := #[{ on := 2, ground := Ground.data }], guard := none }) (v := (.pointer (some ⟨zw, 2, none⟩))) rfl (by kernel_rfl) (by kernel_rfl) (by kernel_rfl) (fun _ _ _ h => h) (Or.inl ⟨by rfl, fun w' hS => by (try dsimp only at hS); go_simp⟩) trivial ?_
  simp only [Act.put, List.setIfInBounds_toArray, List.set_cons_zero, List.set_cons_succ]
  refine wpAnyH_take (i := 9) (oi := { dst := some 33, op := Op.fieldAddr 32 (Operand.tmp 32) 1, type := 0, pos := _, after := #[{ on := 8, ground := Ground.data }], guard := none }) (v := (.pointer (some ⟨zw, 2, none⟩))) rfl (by kernel_rfl) (by kernel_rfl) (by kernel_rfl) (fun _ _ _ h => h) (Or.inl ⟨by rfl, fun w' hS => by (try dsimp only at hS); go_simp⟩) trivial ?_
  simp only [Act.put, List.setIfInBounds_toArray, List.set_cons_zero, List.set_cons_succ]
  refine wpAnyH_ready (rs := [4, 10]) (by kernel_rfl) (by simp) ?_
  refine AllReadyH.cons (o := { dst := some 28, op := Op.load 30 (Operand.tmp 27), type := 30, pos := _, after := #[{ on := 3, ground := Ground.data }], guard := none }) rfl (fun K hK => ?_) (AllReadyH.cons (o := { dst := some 34, op := Op.load 30 (Operand.tmp 33), type := 30, pos := _, after := #[{ on := 9, ground := Ground.data }], guard := none }) rfl (fun K hK => ?_) AllReadyH.nil)
  · have s2 := P0 _ HR.out
    go_simp
    clear s2
    refine hK.out _ _ trivial (fun hB => ?_)
    clear hK K hB
    try simp only [Act.put, List.setIfInBounds_toArray, List.set_cons_zero, List.set_cons_succ]
    refine wpAnyH_ready (rs := [6, 10]) (by kernel_rfl) (by simp) ?_
    refine AllReadyH.cons (o := { dst := some 30, op := Op.call { callee := Callee.value (Operand.func 188), args := #[Operand.tmp 28, Operand.tmp 29], argTypes := #[30, 3] }, type := 30, pos := _, after := #[{ on := 4, ground := Ground.data }, { on := 5, ground := Ground.data }], guard := none }) rfl (fun K hK => ?_) (AllReadyH.cons (o := { dst := some 34, op := Op.load 30 (Operand.tmp 33), type := 30, pos := _, after := #[{ on := 9, ground := Ground.data }], guard := none }) rfl (fun K hK => ?_) AllReadyH.nil)
    · go_simp
      refine (firstOf_any (some ⟨g, 0, none⟩) D.n v.q k _ (Nat.le_of_lt hk) (Or.inr ⟨g, rfl, hnq⟩) hq).mono ?_
      rintro e w5 ⟨rfl, hb5⟩
      have HR5 : Hid (Row w5 zw 4 (kb v D)) := HR.out.blw hb5
      have HB5 : Hid (Blw w w5) := HB4.out.trans hb5
      have HT5 : Hid (Row w5 w.heap.size 3 (fun i => if i = 0 then .int .i64 0 else if i = 1 then .int .i64 0 else .int .i64 0)) := HT4.out.blw hb5
      have HF5 : Hid (Row w5 w1.heap.size 3 (fun i => if i = 0 then .int .i64 (D.F k 0) else if i = 1 then .int .i64 (D.F k 1) else .int .i64 (D.F k 2))) := HF4.out.blw hb5
      have HK5 : Hid (KOwn 3 X w5 (some ⟨g, 0, none⟩) D.n D.F) := by have := HK.out.blw HB5.out; rw [hg] at this; exact this
      have HS5 : Hid (w1.heap.size < w5.heap.size) := by have := HSZ.out.2; have := hb5.size; show _ < _; omega
      clear hb5
      obtain ⟨a', c', w6, hrun, hb6, hK6, hR6, hc6⟩ := cut_append HK5.out hk hn hnq
      rw [← HT0.out] at hrun
      have HRN : Hid _ := hrun
      have HK6 : Hid (KOwn 3 (fun b => X b ∨ (w5.heap.size ≤ b ∧ b < w6.heap.size)) w6 a' (D.n - 1) (dropK k D.F)) := hK6
      have HRM : Hid (Room a' (D.n - 1) c') := hR6
      have HC6 : Hid (c' ≤ 9223372036854775807) := hc6
      have HR6 : Hid (Row w6 zw 4 (kb v D)) := HR5.out.blw hb6
      have HB6 : Hid (Blw w w6) := HB5.out.trans hb6
      have HT6 : Hid (Row w6 w.heap.size 3 (fun i => if i = 0 then .int .i64 0 else if i = 1 then .int .i64 0 else .int .i64 0)) := HT5.out.blw hb6
      have HF6 : Hid (Row w6 w1.heap.size 3 (fun i => if i = 0 then .int .i64 (D.F k 0) else if i = 1 then .int .i64 (D.F k 1) else .int .i64 (D.F k 2))) := HF5.out.blw hb6
      have HS6 : Hid (w5.heap.size ≤ w6.heap.size) := hb6.size
      clear hrun hK6 hR6 hc6 hb6
      refine hK.out _ _ trivial (fun hB => ?_)
      clear hK K hB
      try simp only [Act.put, List.setIfInBounds_toArray, List.set_cons_zero, List.set_cons_succ]
      refine wpAnyH_ready (rs := [10]) (by kernel_rfl) (by simp) ?_
      refine AllReadyH.cons (o := { dst := some 34, op := Op.load 30 (Operand.tmp 33), type := 30, pos := _, after := #[{ on := 9, ground := Ground.data }], guard := none }) rfl (fun K hK => ?_) AllReadyH.nil
      have s2 := P0 _ HR5.out
      go_simp
      clear s2
      refine hK.out _ _ trivial (fun hB => ?_)
      clear hK K hB
      try simp only [Act.put, List.setIfInBounds_toArray, List.set_cons_zero, List.set_cons_succ]
      refine wpAnyH_take (i := 13) (oi := { dst := some 37, op := Op.slice 30 (Operand.tmp 34) (some (Operand.tmp 36)) none none, type := 30, pos := _, after := #[{ on := 10, ground := Ground.data }, { on := 12, ground := Ground.data }], guard := none }) (v := T) rfl (by kernel_rfl) (by kernel_rfl) (by kernel_rfl) (fun _ _ _ h => h) (Or.inl ⟨by rfl, fun w' hS => by (try dsimp only at hS); have hT := HT0.out; go_simp⟩) trivial ?_
      simp only [Act.put, List.setIfInBounds_toArray, List.set_cons_zero, List.set_cons_succ]
      refine wpAnyH_ready (rs := [14]) (by kernel_rfl) (by simp) ?_
      refine AllReadyH.cons (o := { dst := some 38, op := Op.call { callee := Callee.builtin Builtin.append, args := #[Operand.tmp 30, Operand.tmp 37], argTypes := #[30, 30] }, type := 30, pos := _, after := #[{ on := 6, ground := Ground.data }, { on := 13, ground := Ground.data }, { on := 6, ground := Ground.chain }], guard := none }) rfl (fun K hK => ?_) AllReadyH.nil
      refine step_app (.tmp 30) (.tmp 37) 30 (by rfl) ?_
      refine ⟨_, _, HRN.out, ?_⟩
      refine hK.out _ _ trivial (fun hB => ?_)
      clear hK K hB
      try simp only [Act.put, List.setIfInBounds_toArray, List.set_cons_zero, List.set_cons_succ]
      refine wpAnyH_take (i := 15) (oi := { dst := some 39, op := Op.nilCheck (Operand.tmp 24), type := 0, pos := _, after := #[{ on := 0, ground := Ground.data }, { on := 0, ground := Ground.phase }, { on := 1, ground := Ground.phase }, { on := 2, ground := Ground.phase }, { on := 3, ground := Ground.phase }, { on := 4, ground := Ground.phase }, { on := 5, ground := Ground.phase }, { on := 6, ground := Ground.phase }, { on := 7, ground := Ground.phase }, { on := 8, ground := Ground.phase }, { on := 9, ground := Ground.phase }, { on := 10, ground := Ground.phase }, { on := 11, ground := Ground.phase }, { on := 12, ground := Ground.phase }, { on := 13, ground := Ground.phase }, { on := 14, ground := Ground.phase }], guard := none }) (v := (.pointer (some ⟨zw, 0, none⟩))) rfl (by kernel_rfl) (by kernel_rfl) (by kernel_rfl) (fun _ _ _ h => h) (Or.inl ⟨by rfl, fun w' hS => by (try dsimp only at hS); go_simp⟩) trivial ?_
      simp only [Act.put, List.setIfInBounds_toArray, List.set_cons_zero, List.set_cons_succ]
      refine wpAnyH_take (i := 16) (oi := { dst := some 40, op := Op.fieldAddr 32 (Operand.tmp 39) 1, type := 0, pos := _, after := #[{ on := 15, ground := Ground.data }, { on := 0, ground := Ground.phase }, { on := 1, ground := Ground.phase }, { on := 2, ground := Ground.phase }, { on := 3, ground := Ground.phase }, { on := 4, ground := Ground.phase }, { on := 5, ground := Ground.phase }, { on := 6, ground := Ground.phase }, { on := 7, ground := Ground.phase }, { on := 8, ground := Ground.phase }, { on := 9, ground := Ground.phase }, { on := 10, ground := Ground.phase }, { on := 11, ground := Ground.phase }, { on := 12, ground := Ground.phase }, { on := 13, ground := Ground.phase }, { on := 14, ground := Ground.phase }], guard := none }) (v := (.pointer (some ⟨zw, 2, none⟩))) rfl (by kernel_rfl) (by kernel_rfl) (by kernel_rfl) (fun _ _ _ h => h) (Or.inl ⟨by rfl, fun w' hS => by (try dsimp only at hS); go_simp⟩) trivial ?_
      simp only [Act.put, List.setIfInBounds_toArray, List.set_cons_zero, List.set_cons_succ]
      refine wpAnyH_ready (rs := [17]) (by kernel_rfl) (by simp) ?_
      refine AllReadyH.cons (o := { dst := none, op := Op.store 30 (Operand.tmp 40) (Operand.tmp 38), type := 0, pos := _, after := #[{ on := 16, ground := Ground.data }, { on := 14, ground := Ground.data }, { on := 14, ground := Ground.chain }, { on := 0, ground := Ground.phase }, { on := 1, ground := Ground.phase }, { on := 2, ground := Ground.phase }, { on := 3, ground := Ground.phase }, { on := 4, ground := Ground.phase }, { on := 5, ground := Ground.phase }, { on := 6, ground := Ground.phase }, { on := 7, ground := Ground.phase }, { on := 8, ground := Ground.phase }, { on := 9, ground := Ground.phase }, { on := 10, ground := Ground.phase }, { on := 11, ground := Ground.phase }, { on := 12, ground := Ground.phase }, { on := 13, ground := Ground.phase }, { on := 14, ground := Ground.phase }], guard := none }) rfl (fun K hK => ?_) AllReadyH.nil
      obtain ⟨-, -, s2, -⟩ := get4 HR6.out
      have f2 := HR6.out.frozen 2
      go_simp
      refine hK.out _ _ trivial (fun hB => ?_)
      clear hK K hB
      try simp only [Act.put, List.setIfInBounds_toArray, List.set_cons_zero, List.set_cons_succ]
      refine wpAnyH_done (by kernel_rfl) ?_ _
      refine NoPanic.normal ?_
      have m7 : Mod (fun x => x = zw) w6 (w6.setCell ⟨zw, 2, none⟩ (.slice a' (D.n - 1) c')) := Mod.setCell (X := fun x => x = zw) _ (p := ⟨zw, 2, none⟩) rfl _
      have hne1 : w.heap.size ≠ zw := by omega
      have hne2 : w1.heap.size ≠ zw := by have := HSZ.out.1; omega
      have rT := HT6.out.mod m7 hne1
      have rF := HF6.out.mod m7 hne2
      obtain ⟨t0, t1, t2⟩ := get3s rT
      have f0 := rT.frozen 0
      have f1 := rT.frozen 1
      have f3 := rT.frozen 2
      obtain ⟨u0, u1, u2⟩ := get3s rF
      have m8 : Mod (fun x => x = w.heap.size) (w6.setCell ⟨zw, 2, none⟩ (.slice a' (D.n - 1) c')) ((((w6.setCell ⟨zw, 2, none⟩ (.slice a' (D.n - 1) c')).setCell ⟨w.heap.size, 0, none⟩ (.int .i64 (D.F k 0))).setCell ⟨w.heap.size, 1, none⟩ (.int .i64 (D.F k 1))).setCell ⟨w.heap.size, 2, none⟩ (.int .i64 (D.F k 2))) := ((Mod.setCell (X := fun x => x = w.heap.size) _ (p := ⟨w.heap.size, 0, none⟩) rfl _).trans (Mod.setCell (X := fun x => x = w.heap.size) _ (p := ⟨w.heap.size, 1, none⟩) rfl _)).trans (Mod.setCell (X := fun x => x = w.heap.size) _ (p := ⟨w.heap.size, 2, none⟩) rfl _)
      have HN : Hid (∃ aa cc, Row ((((w6.setCell ⟨zw, 2, none⟩ (.slice a' (D.n - 1) c')).setCell ⟨w.heap.size, 0, none⟩ (.int .i64 (D.F k 0))).setCell ⟨w.heap.size, 1, none⟩ (.int .i64 (D.F k 1))).setCell ⟨w.heap.size, 2, none⟩ (.int .i64 (D.F k 2))) zw 4 (kb ⟨v.b, aa, cc⟩ ⟨D.B, D.n - 1, dropK k D.F, D.h⟩) ∧ KOwn 3 (fun b => X b ∨ (w.heap.size ≤ b ∧ b < ((((w6.setCell ⟨zw, 2, none⟩ (.slice a' (D.n - 1) c')).setCell ⟨w.heap.size, 0, none⟩ (.int .i64 (D.F k 0))).setCell ⟨w.heap.size, 1, none⟩ (.int .i64 (D.F k 1))).setCell ⟨w.heap.size, 2, none⟩ (.int .i64 (D.F k 2))).heap.size)) ((((w6.setCell ⟨zw, 2, none⟩ (.slice a' (D.n - 1) c')).setCell ⟨w.heap.size, 0, none⟩ (.int .i64 (D.F k 0))).setCell ⟨w.heap.size, 1, none⟩ (.int .i64 (D.F k 1))).setCell ⟨w.heap.size, 2, none⟩ (.int .i64 (D.F k 2))) aa (D.n - 1) (dropK k D.F) ∧ Room aa (D.n - 1) cc ∧ cc ≤ 9223372036854775807 ∧ Mod (fun x => x = zw) w ((((w6.setCell ⟨zw, 2, none⟩ (.slice a' (D.n - 1) c')).setCell ⟨w.heap.size, 0, none⟩ (.int .i64 (D.F k 0))).setCell ⟨w.heap.size, 1, none⟩ (.int .i64 (D.F k 1))).setCell ⟨w.heap.size, 2, none⟩ (.int .i64 (D.F k 2)))) := by
        have hs5 := HS5.out
        have hs6 := HS6.out
        have hs1 := HSZ.out.1
        have hs7 := m7.size
        have hs8 := m8.size
        refine ⟨a', c', ((HR6.out.set 2 _).congr fun i hi => ?_).mod m8 (by omega), ?_, HRM.out, HC6.out, ?_⟩
        · match i, hi with
          | 0, _ => rfl
          | 1, _ => rfl
          | 2, _ => rfl
          | 3, _ => rfl
        · refine ((KOwn.mod (KOwn.mod (X := fun b => (X b ∧ b ≠ w.heap.size) ∨ (w5.heap.size ≤ b ∧ b < w6.heap.size)) (HK6.out.mono fun b hb => ?_) m7 (fun b hb e => ?_)) m8 (fun b hb e => ?_)).mono (fun b hb => ?_))
          · rcases hb with hb | hb
            · exact Or.inl ⟨hb, by have := HXL.out b hb; omega⟩
            · exact Or.inr hb
          · rcases hb with hb | hb
            · exact hX b hb.1 e
            · omega
          · rcases hb with hb | hb
            · exact hb.2 e
            · omega
          · rcases hb with hb | hb
            · exact Or.inl hb.1
            · exact Or.inr ⟨by omega, by omega⟩
        · exact Mod.of_two HB6.out m7 m8
      clear m7 m8 HR HR5 HR6 HB HB4 HB5 HB6 HT HT4 HT5 HT6 HF4 HF5 HF6 HK HK5 HK6 HRM HC6 HRN HS5 HS6 HSZ rT rF P0 HXL HW hX
      go_wp2
      exact bodyPost_ret (v := .tuple #[.agg #[.int .i64 (D.F k 0), .int .i64 (D.F k 1), .int .i64 (D.F k 2)], .bool true]) (by simp [results, Try.results149, go_sem, t0, t1, t2]) rfl ⟨rfl, HN.out⟩
    · have s2 := P0 _ HR.out
      go_simp
      clear s2
      refine hK.out _ _ trivial (fun hB => ?_)
      clear hK K hB
      try simp only [Act.put, List.setIfInBounds_toArray, List.set_cons_zero, List.set_cons_succ]
      refine wpAnyH_take (i := 13) (oi := { dst := some 37, op := Op.slice 30 (Operand.tmp 34) (some (Operand.tmp 36)) none none, type := 30, pos := _, after := #[{ on := 10, ground := Ground.data }, { on := 12, ground := Ground.data }], guard := none }) (v := T) rfl (by kernel_rfl) (by kernel_rfl) (by kernel_rfl) (fun _ _ _ h => h) (Or.inl ⟨by rfl, fun w' hS => by (try dsimp only at hS); have hT := HT0.out; go_simp⟩) trivial ?_
      simp only [Act.put, List.setIfInBounds_toArray, List.set_cons_zero, List.set_cons_succ]
      refine wpAnyH_ready (rs := [6]) (by kernel_rfl) (by simp) ?_
      refine AllReadyH.cons (o := { dst := some 30, op := Op.call { callee := Callee.value (Operand.func 188), args := #[Operand.tmp 28, Operand.tmp 29], argTypes := #[30, 3] }, type := 30, pos := _, after := #[{ on := 4, ground := Ground.data }, { on := 5, ground := Ground.data }], guard := none }) rfl (fun K hK => ?_) AllReadyH.nil
      go_simp
      refine (firstOf_any (some ⟨g, 0, none⟩) D.n v.q k _ (Nat.le_of_lt hk) (Or.inr ⟨g, rfl, hnq⟩) hq).mono ?_
      rintro e w5 ⟨rfl, hb5⟩
      have HR5 : Hid (Row w5 zw 4 (kb v D)) := HR.out.blw hb5
      have HB5 : Hid (Blw w w5) := HB4.out.trans hb5
      have HT5 : Hid (Row w5 w.heap.size 3 (fun i => if i = 0 then .int .i64 0 else if i = 1 then .int .i64 0 else .int .i64 0)) := HT4.out.blw hb5
      have HF5 : Hid (Row w5 w1.heap.size 3 (fun i => if i = 0 then .int .i64 (D.F k 0) else if i = 1 then .int .i64 (D.F k 1) else .int .i64 (D.F k 2))) := HF4.out.blw hb5
      have HK5 : Hid (KOwn 3 X w5 (some ⟨g, 0, none⟩) D.n D.F) := by have := HK.out.blw HB5.out; rw [hg] at this; exact this
      have HS5 : Hid (w1.heap.size < w5.heap.size) := by have := HSZ.out.2; have := hb5.size; show _ < _; omega
      clear hb5
      obtain ⟨a', c', w6, hrun, hb6, hK6, hR6, hc6⟩ := cut_append HK5.out hk hn hnq
      rw [← HT0.out] at hrun
      have HRN : Hid _ := hrun
      have HK6 : Hid (KOwn 3 (fun b => X b ∨ (w5.heap.size ≤ b ∧ b < w6.heap.size)) w6 a' (D.n - 1) (dropK k D.F)) := hK6
      have HRM : Hid (Room a' (D.n - 1) c') := hR6
      have HC6 : Hid (c' ≤ 9223372036854775807) := hc6
      have HR6 : Hid (Row w6 zw 4 (kb v D)) := HR5.out.blw hb6
      have HB6 : Hid (Blw w w6) := HB5.out.trans hb6
      have HT6 : Hid (Row w6 w.heap.size 3 (fun i => if i = 0 then .int .i64 0 else if i = 1 then .int .i64 0 else .int .i64 0)) := HT5.out.blw hb6
      have HF6 : Hid (Row w6 w1.heap.size 3 (fun i => if i = 0 then .int .i64 (D.F k 0) else if i = 1 then .int .i64 (D.F k 1) else .int .i64 (D.F k 2))) := HF5.out.blw hb6
      have HS6 : Hid (w5.heap.size ≤ w6.heap.size) := hb6.size
      clear hrun hK6 hR6 hc6 hb6
      refine hK.out _ _ trivial (fun hB => ?_)
      clear hK K hB
      try simp only [Act.put, List.setIfInBounds_toArray, List.set_cons_zero, List.set_cons_succ]
      refine wpAnyH_ready (rs := [14]) (by kernel_rfl) (by simp) ?_
      refine AllReadyH.cons (o := { dst := some 38, op := Op.call { callee := Callee.builtin Builtin.append, args := #[Operand.tmp 30, Operand.tmp 37], argTypes := #[30, 30] }, type := 30, pos := _, after := #[{ on := 6, ground := Ground.data }, { on := 13, ground := Ground.data }, { on := 6, ground := Ground.chain }], guard := none }) rfl (fun K hK => ?_) AllReadyH.nil
      refine step_app (.tmp 30) (.tmp 37) 30 (by rfl) ?_
      refine ⟨_, _, HRN.out, ?_⟩
      refine hK.out _ _ trivial (fun hB => ?_)
      clear hK K hB
      try simp only [Act.put, List.setIfInBounds_toArray, List.set_cons_zero, List.set_cons_succ]
      refine wpAnyH_take (i := 15) (oi := { dst := some 39, op := Op.nilCheck (Operand.tmp 24), type := 0, pos := _, after := #[{ on := 0, ground := Ground.data }, { on := 0, ground := Ground.phase }, { on := 1, ground := Ground.phase }, { on := 2, ground := Ground.phase }, { on := 3, ground := Ground.phase }, { on := 4, ground := Ground.phase }, { on := 5, ground := Ground.phase }, { on := 6, ground := Ground.phase }, { on := 7, ground := Ground.phase }, { on := 8, ground := Ground.phase }, { on := 9, ground := Ground.phase }, { on := 10, ground := Ground.phase }, { on := 11, ground := Ground.phase }, { on := 12, ground := Ground.phase }, { on := 13, ground := Ground.phase }, { on := 14, ground := Ground.phase }], guard := none }) (v := (.pointer (some ⟨zw, 0, none⟩))) rfl (by kernel_rfl) (by kernel_rfl) (by kernel_rfl) (fun _ _ _ h => h) (Or.inl ⟨by rfl, fun w' hS => by (try dsimp only at hS); go_simp⟩) trivial ?_
      simp only [Act.put, List.setIfInBounds_toArray, List.set_cons_zero, List.set_cons_succ]
      refine wpAnyH_take (i := 16) (oi := { dst := some 40, op := Op.fieldAddr 32 (Operand.tmp 39) 1, type := 0, pos := _, after := #[{ on := 15, ground := Ground.data }, { on := 0, ground := Ground.phase }, { on := 1, ground := Ground.phase }, { on := 2, ground := Ground.phase }, { on := 3, ground := Ground.phase }, { on := 4, ground := Ground.phase }, { on := 5, ground := Ground.phase }, { on := 6, ground := Ground.phase }, { on := 7, ground := Ground.phase }, { on := 8, ground := Ground.phase }, { on := 9, ground := Ground.phase }, { on := 10, ground := Ground.phase }, { on := 11, ground := Ground.phase }, { on := 12, ground := Ground.phase }, { on := 13, ground := Ground.phase }, { on := 14, ground := Ground.phase }], guard := none }) (v := (.pointer (some ⟨zw, 2, none⟩))) rfl (by kernel_rfl) (by kernel_rfl) (by kernel_rfl) (fun _ _ _ h => h) (Or.inl ⟨by rfl, fun w' hS => by (try dsimp only at hS); go_simp⟩) trivial ?_
      simp only [Act.put, List.setIfInBounds_toArray, List.set_cons_zero, List.set_cons_succ]
      refine wpAnyH_ready (rs := [17]) (by kernel_rfl) (by simp) ?_
      refine AllReadyH.cons (o := { dst := none, op := Op.store 30 (Operand.tmp 40) (Operand.tmp 38), type := 0, pos := _, after := #[{ on := 16, ground := Ground.data }, { on := 14, ground := Ground.data }, { on := 14, ground := Ground.chain }, { on := 0, ground := Ground.phase }, { on := 1, ground := Ground.phase }, { on := 2, ground := Ground.phase }, { on := 3, ground := Ground.phase }, { on := 4, ground := Ground.phase }, { on := 5, ground := Ground.phase }, { on := 6, ground := Ground.phase }, { on := 7, ground := Ground.phase }, { on := 8, ground := Ground.phase }, { on := 9, ground := Ground.phase }, { on := 10, ground := Ground.phase }, { on := 11, ground := Ground.phase }, { on := 12, ground := Ground.phase }, { on := 13, ground := Ground.phase }, { on := 14, ground := Ground.phase }], guard := none }) rfl (fun K hK => ?_) AllReadyH.nil
      obtain ⟨-, -, s2, -⟩ := get4 HR6.out
      have f2 := HR6.out.frozen 2
      go_simp
      refine hK.out _ _ trivial (fun hB => ?_)
      clear hK K hB
      try simp only [Act.put, List.setIfInBounds_toArray, List.set_cons_zero, List.set_cons_succ]
      refine wpAnyH_done (by kernel_rfl) ?_ _
      refine NoPanic.normal ?_
      have m7 : Mod (fun x => x = zw) w6 (w6.setCell ⟨zw, 2, none⟩ (.slice a' (D.n - 1) c')) := Mod.setCell (X := fun x => x = zw) _ (p := ⟨zw, 2, none⟩) rfl _
      have hne1 : w.heap.size ≠ zw := by omega
      have hne2 : w1.heap.size ≠ zw := by have := HSZ.out.1; omega
      have rT := HT6.out.mod m7 hne1
      have rF := HF6.out.mod m7 hne2
      obtain ⟨t0, t1, t2⟩ := get3s rT
      have f0 := rT.frozen 0
      have f1 := rT.frozen 1
      have f3 := rT.frozen 2
      obtain ⟨u0, u1, u2⟩ := get3s rF
      have m8 : Mod (fun x => x = w.heap.size) (w6.setCell ⟨zw, 2, none⟩ (.slice a' (D.n - 1) c')) ((((w6.setCell ⟨zw, 2, none⟩ (.slice a' (D.n - 1) c')).setCell ⟨w.heap.size, 0, none⟩ (.int .i64 (D.F k 0))).setCell ⟨w.heap.size, 1, none⟩ (.int .i64 (D.F k 1))).setCell ⟨w.heap.size, 2, none⟩ (.int .i64 (D.F k 2))) := ((Mod.setCell (X := fun x => x = w.heap.size) _ (p := ⟨w.heap.size, 0, none⟩) rfl _).trans (Mod.setCell (X := fun x => x = w.heap.size) _ (p := ⟨w.heap.size, 1, none⟩) rfl _)).trans (Mod.setCell (X := fun x => x = w.heap.size) _ (p := ⟨w.heap.size, 2, none⟩) rfl _)
      have HN : Hid (∃ aa cc, Row ((((w6.setCell ⟨zw, 2, none⟩ (.slice a' (D.n - 1) c')).setCell ⟨w.heap.size, 0, none⟩ (.int .i64 (D.F k 0))).setCell ⟨w.heap.size, 1, none⟩ (.int .i64 (D.F k 1))).setCell ⟨w.heap.size, 2, none⟩ (.int .i64 (D.F k 2))) zw 4 (kb ⟨v.b, aa, cc⟩ ⟨D.B, D.n - 1, dropK k D.F, D.h⟩) ∧ KOwn 3 (fun b => X b ∨ (w.heap.size ≤ b ∧ b < ((((w6.setCell ⟨zw, 2, none⟩ (.slice a' (D.n - 1) c')).setCell ⟨w.heap.size, 0, none⟩ (.int .i64 (D.F k 0))).setCell ⟨w.heap.size, 1, none⟩ (.int .i64 (D.F k 1))).setCell ⟨w.heap.size, 2, none⟩ (.int .i64 (D.F k 2))).heap.size)) ((((w6.setCell ⟨zw, 2, none⟩ (.slice a' (D.n - 1) c')).setCell ⟨w.heap.size, 0, none⟩ (.int .i64 (D.F k 0))).setCell ⟨w.heap.size, 1, none⟩ (.int .i64 (D.F k 1))).setCell ⟨w.heap.size, 2, none⟩ (.int .i64 (D.F k 2))) aa (D.n - 1) (dropK k D.F) ∧ Room aa (D.n - 1) cc ∧ cc ≤ 9223372036854775807 ∧ Mod (fun x => x = zw) w ((((w6.setCell ⟨zw, 2, none⟩ (.slice a' (D.n - 1) c')).setCell ⟨w.heap.size, 0, none⟩ (.int .i64 (D.F k 0))).setCell ⟨w.heap.size, 1, none⟩ (.int .i64 (D.F k 1))).setCell ⟨w.heap.size, 2, none⟩ (.int .i64 (D.F k 2)))) := by
        have hs5 := HS5.out
        have hs6 := HS6.out
        have hs1 := HSZ.out.1
        have hs7 := m7.size
        have hs8 := m8.size
        refine ⟨a', c', ((HR6.out.set 2 _).congr fun i hi => ?_).mod m8 (by omega), ?_, HRM.out, HC6.out, ?_⟩
        · match i, hi with
          | 0, _ => rfl
          | 1, _ => rfl
          | 2, _ => rfl
          | 3, _ => rfl
        · refine ((KOwn.mod (KOwn.mod (X := fun b => (X b ∧ b ≠ w.heap.size) ∨ (w5.heap.size ≤ b ∧ b < w6.heap.size)) (HK6.out.mono fun b hb => ?_) m7 (fun b hb e => ?_)) m8 (fun b hb e => ?_)).mono (fun b hb => ?_))
          · rcases hb with hb | hb
            · exact Or.inl ⟨hb, by have := HXL.out b hb; omega⟩
            · exact Or.inr hb
          · rcases hb with hb | hb
            · exact hX b hb.1 e
            · omega
          · rcases hb with hb | hb
            · exact hb.2 e
            · omega
          · rcases hb with hb | hb
            · exact Or.inl hb.1
            · exact Or.inr ⟨by omega, by omega⟩
        · exact Mod.of_two HB6.out m7 m8
      clear m7 m8 HR HR5 HR6 HB HB4 HB5 HB6 HT HT4 HT5 HT6 HF4 HF5 HF6 HK HK5 HK6 HRM HC6 HRN HS5 HS6 HSZ rT rF P0 HXL HW hX
      go_wp2
      exact bodyPost_ret (v := .tuple #[.agg #[.int .i64 (D.F k 0), .int .i64 (D.F k 1), .int .i64 (D.F k 2)], .bool true]) (by simp [results, Try.results149, go_sem, t0, t1, t2]) rfl ⟨rfl, HN.out⟩
  · have s2 := P0 _ HR.out
    go_simp
    clear s2
    refine hK.out _ _ trivial (fun hB => ?_)
    clear hK K hB
    try simp only [Act.put, List.setIfInBounds_toArray, List.set_cons_zero, List.set_cons_succ]
    refine wpAnyH_take (i := 13) (oi := { dst := some 37, op := Op.slice 30 (Operand.tmp 34) (some (Operand.tmp 36)) none none, type := 30, pos := _, after := #[{ on := 10, ground := Ground.data }, { on := 12, ground := Ground.data }], guard := none }) (v := T) rfl (by kernel_rfl) (by kernel_rfl) (by kernel_rfl) (fun _ _ _ h => h) (Or.inl ⟨by rfl, fun w' hS => by (try dsimp only at hS); have hT := HT0.out; go_simp⟩) trivial ?_
    simp only [Act.put, List.setIfInBounds_toArray, List.set_cons_zero, List.set_cons_succ]
    refine wpAnyH_ready (rs := [4]) (by kernel_rfl) (by simp) ?_
    refine AllReadyH.cons (o := { dst := some 28, op := Op.load 30 (Operand.tmp 27), type := 30, pos := _, after := #[{ on := 3, ground := Ground.data }], guard := none }) rfl (fun K hK => ?_) AllReadyH.nil
    have s2 := P0 _ HR.out
    go_simp
    clear s2
    refine hK.out _ _ trivial (fun hB => ?_)
    clear hK K hB
    try simp only [Act.put, List.setIfInBounds_toArray, List.set_cons_zero, List.set_cons_succ]
    refine wpAnyH_ready (rs := [6]) (by kernel_rfl) (by simp) ?_
    refine AllReadyH.cons (o := { dst := some 30, op := Op.call { callee := Callee.value (Operand.func 188), args := #[Operand.tmp 28, Operand.tmp 29], argTypes := #[30, 3] }, type := 30, pos := _, after := #[{ on := 4, ground := Ground.data }, { on := 5, ground := Ground.data }], guard := none }) rfl (fun K hK => ?_) AllReadyH.nil
    go_simp
    refine (firstOf_any (some ⟨g, 0, none⟩) D.n v.q k _ (Nat.le_of_lt hk) (Or.inr ⟨g, rfl, hnq⟩) hq).mono ?_
    rintro e w5 ⟨rfl, hb5⟩
    have HR5 : Hid (Row w5 zw 4 (kb v D)) := HR.out.blw hb5
    have HB5 : Hid (Blw w w5) := HB4.out.trans hb5
    have HT5 : Hid (Row w5 w.heap.size 3 (fun i => if i = 0 then .int .i64 0 else if i = 1 then .int .i64 0 else .int .i64 0)) := HT4.out.blw hb5
    have HF5 : Hid (Row w5 w1.heap.size 3 (fun i => if i = 0 then .int .i64 (D.F k 0) else if i = 1 then .int .i64 (D.F k 1) else .int .i64 (D.F k 2))) := HF4.out.blw hb5
    have HK5 : Hid (KOwn 3 X w5 (some ⟨g, 0, none⟩) D.n D.F) := by have := HK.out.blw HB5.out; rw [hg] at this; exact this
    have HS5 : Hid (w1.heap.size < w5.heap.size) := by have := HSZ.out.2; have := hb5.size; show _ < _; omega
    clear hb5
    obtain ⟨a', c', w6, hrun, hb6, hK6, hR6, hc6⟩ := cut_append HK5.out hk hn hnq
    rw [← HT0.out] at hrun
    have HRN : Hid _ := hrun
    have HK6 : Hid (KOwn 3 (fun b => X b ∨ (w5.heap.size ≤ b ∧ b < w6.heap.size)) w6 a' (D.n - 1) (dropK k D.F)) := hK6
    have HRM : Hid (Room a' (D.n - 1) c') := hR6
    have HC6 : Hid (c' ≤ 9223372036854775807) := hc6
    have HR6 : Hid (Row w6 zw 4 (kb v D)) := HR5.out.blw hb6
    have HB6 : Hid (Blw w w6) := HB5.out.trans hb6
    have HT6 : Hid (Row w6 w.heap.size 3 (fun i => if i = 0 then .int .i64 0 else if i = 1 then .int .i64 0 else .int .i64 0)) := HT5.out.blw hb6
    have HF6 : Hid (Row w6 w1.heap.size 3 (fun i => if i = 0 then .int .i64 (D.F k 0) else if i = 1 then .int .i64 (D.F k 1) else .int .i64 (D.F k 2))) := HF5.out.blw hb6
    have HS6 : Hid (w5.heap.size ≤ w6.heap.size) := hb6.size
    clear hrun hK6 hR6 hc6 hb6
    refine hK.out _ _ trivial (fun hB => ?_)
    clear hK K hB
    try simp only [Act.put, List.setIfInBounds_toArray, List.set_cons_zero, List.set_cons_succ]
    refine wpAnyH_ready (rs := [14]) (by kernel_rfl) (by simp) ?_
    refine AllReadyH.cons (o := { dst := some 38, op := Op.call { callee := Callee.builtin Builtin.append, args := #[Operand.tmp 30, Operand.tmp 37], argTypes := #[30, 30] }, type := 30, pos := _, after := #[{ on := 6, ground := Ground.data }, { on := 13, ground := Ground.data }, { on := 6, ground := Ground.chain }], guard := none }) rfl (fun K hK => ?_) AllReadyH.nil
    refine step_app (.tmp 30) (.tmp 37) 30 (by rfl) ?_
    refine ⟨_, _, HRN.out, ?_⟩
    refine hK.out _ _ trivial (fun hB => ?_)
    clear hK K hB
    try simp only [Act.put, List.setIfInBounds_toArray, List.set_cons_zero, List.set_cons_succ]
    refine wpAnyH_take (i := 15) (oi := { dst := some 39, op := Op.nilCheck (Operand.tmp 24), type := 0, pos := _, after := #[{ on := 0, ground := Ground.data }, { on := 0, ground := Ground.phase }, { on := 1, ground := Ground.phase }, { on := 2, ground := Ground.phase }, { on := 3, ground := Ground.phase }, { on := 4, ground := Ground.phase }, { on := 5, ground := Ground.phase }, { on := 6, ground := Ground.phase }, { on := 7, ground := Ground.phase }, { on := 8, ground := Ground.phase }, { on := 9, ground := Ground.phase }, { on := 10, ground := Ground.phase }, { on := 11, ground := Ground.phase }, { on := 12, ground := Ground.phase }, { on := 13, ground := Ground.phase }, { on := 14, ground := Ground.phase }], guard := none }) (v := (.pointer (some ⟨zw, 0, none⟩))) rfl (by kernel_rfl) (by kernel_rfl) (by kernel_rfl) (fun _ _ _ h => h) (Or.inl ⟨by rfl, fun w' hS => by (try dsimp only at hS); go_simp⟩) trivial ?_
    simp only [Act.put, List.setIfInBounds_toArray, List.set_cons_zero, List.set_cons_succ]
    refine wpAnyH_take (i := 16) (oi := { dst := some 40, op := Op.fieldAddr 32 (Operand.tmp 39) 1, type := 0, pos := _, after := #[{ on := 15, ground := Ground.data }, { on := 0, ground := Ground.phase }, { on := 1, ground := Ground.phase }, { on := 2, ground := Ground.phase }, { on := 3, ground := Ground.phase }, { on := 4, ground := Ground.phase }, { on := 5, ground := Ground.phase }, { on := 6, ground := Ground.phase }, { on := 7, ground := Ground.phase }, { on := 8, ground := Ground.phase }, { on := 9, ground := Ground.phase }, { on := 10, ground := Ground.phase }, { on := 11, ground := Ground.phase }, { on := 12, ground := Ground.phase }, { on := 13, ground := Ground.phase }, { on := 14, ground := Ground.phase }], guard := none }) (v := (.pointer (some ⟨zw, 2, none⟩))) rfl (by kernel_rfl) (by kernel_rfl) (by kernel_rfl) (fun _ _ _ h => h) (Or.inl ⟨by rfl, fun w' hS => by (try dsimp only at hS); go_simp⟩) trivial ?_
    simp only [Act.put, List.setIfInBounds_toArray, List.set_cons_zero, List.set_cons_succ]
    refine wpAnyH_ready (rs := [17]) (by kernel_rfl) (by simp) ?_
    refine AllReadyH.cons (o := { dst := none, op := Op.store 30 (Operand.tmp 40) (Operand.tmp 38), type := 0, pos := _, after := #[{ on := 16, ground := Ground.data }, { on := 14, ground := Ground.data }, { on := 14, ground := Ground.chain }, { on := 0, ground := Ground.phase }, { on := 1, ground := Ground.phase }, { on := 2, ground := Ground.phase }, { on := 3, ground := Ground.phase }, { on := 4, ground := Ground.phase }, { on := 5, ground := Ground.phase }, { on := 6, ground := Ground.phase }, { on := 7, ground := Ground.phase }, { on := 8, ground := Ground.phase }, { on := 9, ground := Ground.phase }, { on := 10, ground := Ground.phase }, { on := 11, ground := Ground.phase }, { on := 12, ground := Ground.phase }, { on := 13, ground := Ground.phase }, { on := 14, ground := Ground.phase }], guard := none }) rfl (fun K hK => ?_) AllReadyH.nil
    obtain ⟨-, -, s2, -⟩ := get4 HR6.out
    have f2 := HR6.out.frozen 2
    go_simp
    refine hK.out _ _ trivial (fun hB => ?_)
    clear hK K hB
    try simp only [Act.put, List.setIfInBounds_toArray, List.set_cons_zero, List.set_cons_succ]
    refine wpAnyH_done (by kernel_rfl) ?_ _
    refine NoPanic.normal ?_
    have m7 : Mod (fun x => x = zw) w6 (w6.setCell ⟨zw, 2, none⟩ (.slice a' (D.n - 1) c')) := Mod.setCell (X := fun x => x = zw) _ (p := ⟨zw, 2, none⟩) rfl _
    have hne1 : w.heap.size ≠ zw := by omega
    have hne2 : w1.heap.size ≠ zw := by have := HSZ.out.1; omega
    have rT := HT6.out.mod m7 hne1
    have rF := HF6.out.mod m7 hne2
    obtain ⟨t0, t1, t2⟩ := get3s rT
    have f0 := rT.frozen 0
    have f1 := rT.frozen 1
    have f3 := rT.frozen 2
    obtain ⟨u0, u1, u2⟩ := get3s rF
    have m8 : Mod (fun x => x = w.heap.size) (w6.setCell ⟨zw, 2, none⟩ (.slice a' (D.n - 1) c')) ((((w6.setCell ⟨zw, 2, none⟩ (.slice a' (D.n - 1) c')).setCell ⟨w.heap.size, 0, none⟩ (.int .i64 (D.F k 0))).setCell ⟨w.heap.size, 1, none⟩ (.int .i64 (D.F k 1))).setCell ⟨w.heap.size, 2, none⟩ (.int .i64 (D.F k 2))) := ((Mod.setCell (X := fun x => x = w.heap.size) _ (p := ⟨w.heap.size, 0, none⟩) rfl _).trans (Mod.setCell (X := fun x => x = w.heap.size) _ (p := ⟨w.heap.size, 1, none⟩) rfl _)).trans (Mod.setCell (X := fun x => x = w.heap.size) _ (p := ⟨w.heap.size, 2, none⟩) rfl _)
    have HN : Hid (∃ aa cc, Row ((((w6.setCell ⟨zw, 2, none⟩ (.slice a' (D.n - 1) c')).setCell ⟨w.heap.size, 0, none⟩ (.int .i64 (D.F k 0))).setCell ⟨w.heap.size, 1, none⟩ (.int .i64 (D.F k 1))).setCell ⟨w.heap.size, 2, none⟩ (.int .i64 (D.F k 2))) zw 4 (kb ⟨v.b, aa, cc⟩ ⟨D.B, D.n - 1, dropK k D.F, D.h⟩) ∧ KOwn 3 (fun b => X b ∨ (w.heap.size ≤ b ∧ b < ((((w6.setCell ⟨zw, 2, none⟩ (.slice a' (D.n - 1) c')).setCell ⟨w.heap.size, 0, none⟩ (.int .i64 (D.F k 0))).setCell ⟨w.heap.size, 1, none⟩ (.int .i64 (D.F k 1))).setCell ⟨w.heap.size, 2, none⟩ (.int .i64 (D.F k 2))).heap.size)) ((((w6.setCell ⟨zw, 2, none⟩ (.slice a' (D.n - 1) c')).setCell ⟨w.heap.size, 0, none⟩ (.int .i64 (D.F k 0))).setCell ⟨w.heap.size, 1, none⟩ (.int .i64 (D.F k 1))).setCell ⟨w.heap.size, 2, none⟩ (.int .i64 (D.F k 2))) aa (D.n - 1) (dropK k D.F) ∧ Room aa (D.n - 1) cc ∧ cc ≤ 9223372036854775807 ∧ Mod (fun x => x = zw) w ((((w6.setCell ⟨zw, 2, none⟩ (.slice a' (D.n - 1) c')).setCell ⟨w.heap.size, 0, none⟩ (.int .i64 (D.F k 0))).setCell ⟨w.heap.size, 1, none⟩ (.int .i64 (D.F k 1))).setCell ⟨w.heap.size, 2, none⟩ (.int .i64 (D.F k 2)))) := by
      have hs5 := HS5.out
      have hs6 := HS6.out
      have hs1 := HSZ.out.1
      have hs7 := m7.size
      have hs8 := m8.size
      refine ⟨a', c', ((HR6.out.set 2 _).congr fun i hi => ?_).mod m8 (by omega), ?_, HRM.out, HC6.out, ?_⟩
      · match i, hi with
        | 0, _ => rfl
        | 1, _ => rfl
        | 2, _ => rfl
        | 3, _ => rfl
      · refine ((KOwn.mod (KOwn.mod (X := fun b => (X b ∧ b ≠ w.heap.size) ∨ (w5.heap.size ≤ b ∧ b < w6.heap.size)) (HK6.out.mono fun b hb => ?_) m7 (fun b hb e => ?_)) m8 (fun b hb e => ?_)).mono (fun b hb => ?_))
        · rcases hb with hb | hb
          · exact Or.inl ⟨hb, by have := HXL.out b hb; omega⟩
          · exact Or.inr hb
        · rcases hb with hb | hb
          · exact hX b hb.1 e
          · omega
        · rcases hb with hb | hb
          · exact hb.2 e
          · omega
        · rcases hb with hb | hb
          · exact Or.inl hb.1
          · exact Or.inr ⟨by omega, by omega⟩
      · exact Mod.of_two HB6.out m7 m8
    clear m7 m8 HR HR5 HR6 HB HB4 HB5 HB6 HT HT4 HT5 HT6 HF4 HF5 HF6 HK HK5 HK6 HRM HC6 HRN HS5 HS6 HSZ rT rF P0 HXL HW hX
    go_wp2
    exact bodyPost_ret (v := .tuple #[.agg #[.int .i64 (D.F k 0), .int .i64 (D.F k 1), .int .i64 (D.F k 2)], .bool true]) (by simp [results, Try.results149, go_sem, t0, t1, t2]) rfl ⟨rfl, HN.out⟩
end Go.Proofs.Ytbpdopcdhnemfaa
/- A short way kept first: the program. -/
namespace Go.Proofs.Ytbpdopcdhnemfaa
open Go.RowKit
set_option linter.unusedSimpArgs false
set_option linter.unusedVariables false

theorem Buf.one3 {w : World} (x0 x1 x2 : Int) : Buf 129 3 (fun b => b = w.heap.size) (w.alloc (.cells #[.int .i64 x0, .int .i64 x1, .int .i64 x2] 129)) (.slice (some ⟨w.heap.size, 0, none⟩) 1 1) 1 (kc 3 (fun _ c => if c = 0 then x0 else if c = 1 then x1 else x2)) :=
  ⟨⟨by simp, Or.inr ⟨w.heap.size, 1, #[.int .i64 x0, .int .i64 x1, .int .i64 x2], rfl, Nat.zero_le _, heap_alloc_new _ _, Nat.le_refl _, by simp [maxLen], rfl, rfl⟩⟩, fun g hg => by simp [Value.ownBlock] at hg; exact hg.symm⟩
theorem Mod.of_blw {z : Nat} {w w7 w8 : World} (h : Blw w w7) (h7 : Mod (fun x => x = z) w7 w8) : Mod (fun x => x = z) w w8 :=
  ⟨h7.os.trans h.os, h7.tape.trans h.tape, h7.output.trans h.output, Nat.le_trans h.size h7.size, fun q hq hx => (h7.block q (Nat.lt_of_lt_of_le hq h.size) hx).trans (h.block q hq)⟩
def consK (x0 x1 x2 : Int) (F : Nat → Nat → Int) : Nat → Nat → Int := catK 1 (fun _ c => if c = 0 then x0 else if c = 1 then x1 else x2) F
/-- What the append of keep answers. -/
theorem cons_append {X : Nat → Prop} {w : World} (x0 x1 x2 : Int) {ao : Option Addr} {n q : Nat} {F : Nat → Nat → Int} (h : KOwn 3 X w ao n F) (hn : n ≤ 1000) (hr : Room ao n q) :
    ∃ a' c' w', (Builtin.append_ #[30, 30] 30 #[.slice (some ⟨w.heap.size, 0, none⟩) 1 1, .slice ao n q]).run Try.prog (w.alloc (.cells #[.int .i64 x0, .int .i64 x1, .int .i64 x2] 129)) = .ok (.slice a' (1 + n) c') w' ∧ Blw w w' ∧ KOwn 3 (fun b => w.heap.size ≤ b ∧ b < w'.heap.size) w' a' (1 + n) (consK x0 x1 x2 F) ∧ Room a' (1 + n) c' ∧ c' ≤ 9223372036854775807 := by
  obtain ⟨i0, hi, hz0, hz1, hz2⟩ := info_parts infoSh
  have hb : Blw w (w.alloc (.cells #[.int .i64 x0, .int .i64 x1, .int .i64 x2] 129)) := (Blw.refl _).alloc _
  obtain ⟨a', c', w', hrun, hB, hM⟩ := Buf.append (t := 30) Try.underlying30 hi hz0 hz1 hz2 (by rfl) (by omega) (Buf.one3 (w := w) x0 x1 x2) (ao := ao) (m := n) q (G := kc 3 F) (fun e => by
    rcases hr with ⟨-, e2, -⟩ | ⟨g, e2, -⟩
    · exact e2
    · rw [e] at e2; cases e2) (fun ad e j hj => by
    obtain ⟨g, -, e2, r⟩ := (h.blw hb).2 (by omega)
    rw [e] at e2
    cases e2
    rw [Addr.add_lit, Nat.zero_add]
    exact r.cell hj) (fun j => rfl) (by omega) (by omega) 30
  have hB2 := hB.congr (G := kc 3 (consK x0 x1 x2 F)) (fun i _ => cat_kc 3 1 (by omega) _ F i)
  obtain ⟨a0, cap, e, hR, hcap, hK⟩ := hB2.ways (by omega)
  cases e
  refine ⟨_, _, w', hrun, Mod.blw hb hM (fun b e => ?_), hK.mono (fun b hx => ⟨?_, hx.2⟩), hR, hcap⟩
  · simp [Value.ownBlock] at e
    omega
  · rcases hx.1 with e | e
    · omega
    · rw [World.size_alloc] at e; omega

set_option maxRecDepth 10000 in
set_option maxHeartbeats 3200000 in
theorem keep_any (zw k : Nat) (x0 x1 x2 : Int) (v : KV) (D : KD) (X : Nat → Prop) (w : World) (hn : D.n ≤ 4) (hk : (k : Int) = min ((1 + D.n : Nat) : Int) 4) (hR : Room v.a D.n v.q) (hW : Row w zw 4 (kb v D)) (hK : KOwn 3 X w v.a D.n D.F) :
    Calls Try.prog 186 #[.pointer (some ⟨zw, 0, none⟩), .agg #[.int .i64 x0, .int .i64 x1, .int .i64 x2]] w fun e w' => (∃ u, e = .returned u) ∧ ∃ a' c', Row w' zw 4 (kb ⟨v.b, a', c'⟩ ⟨D.B, k, consK x0 x1 x2 D.F, D.h⟩) ∧ KOwn 3 (fun b => w.heap.size ≤ b ∧ b < w'.heap.size) w' a' k (consK x0 x1 x2 D.F) ∧ Room a' k c' ∧ c' ≤ 9223372036854775807 ∧ Mod (fun x => x = zw) w w' := by
  have hb : Blw w (w.alloc (.cells #[.int .i64 x0, .int .i64 x1, .int .i64 x2] 129)).drew := ((Blw.refl _).alloc _).drew
  have hk2 : k ≤ 1 + D.n := by omega
  have HX : Hid (Row (w.alloc (.cells #[.int .i64 x0, .int .i64 x1, .int .i64 x2] 129)).drew w.heap.size 3 (fun i => if i = 0 then .int .i64 x0 else if i = 1 then .int .i64 x1 else .int .i64 x2)) := (box3s w _ _ _ 129).blw ((Blw.refl _).drew)
  have HW : Hid (Row (w.alloc (.cells #[.int .i64 x0, .int .i64 x1, .int .i64 x2] 129)).drew zw 4 (kb v D)) := hW.blw hb
  have HK : Hid (KOwn 3 X (w.alloc (.cells #[.int .i64 x0, .int .i64 x1, .int .i64 x2] 129)).drew v.a D.n D.F) := hK.blw hb
  have HB : Hid (Blw w (w.alloc (.cells #[.int .i64 x0, .int .i64 x1, .int .i64 x2] 129)).drew) := hb
  have HZ : Hid (zw < w.heap.size) := hW.lt
  clear hb hW hK
  go_enter Try.func186, Try.ntmps186
  go_upto_region 1 with fail
  have P0 : ∀ w', (Row w' w.heap.size 3 (fun i => if i = 0 then .int .i64 x0 else if i = 1 then .int .i64 x1 else .int .i64 x2) ∧ Row w' zw 4 (kb v D)) → w'.cell? ⟨w.heap.size, 0, none⟩ = some (.int .i64 x0) ∧ w'.cell? ⟨w.heap.size, 1, none⟩ = some (.int .i64 x1) ∧ w'.cell? ⟨w.heap.size, 2, none⟩ = some (.int .i64 x2) ∧ w'.cell? ⟨zw, 2, none⟩ = some (.slice v.a D.n v.q) := fun w' hh => ⟨(get3s hh.1).1, (get3s hh.1).2.1, (get3s hh.1).2.2, (get4 hh.2).2.2.1⟩
  refine wp_region_noPanic ?_
  refine wp_region_held_drew (S := (fun w' => Row w' w.heap.size 3 (fun i => if i = 0 then .int .i64 x0 else if i = 1 then .int .i64 x1 else .int .i64 x2) ∧ Row w' zw 4 (kb v D))) (by kernel_rfl) ⟨HX.out, HW.out⟩ (fun hB => ?_)
  clear hB
  generalize (w.alloc (.cells #[.int .i64 x0, .int .i64 x1, .int .i64 x2] 129)).drew = wd at *
  refine wpAnyH_take (i := 0) (oi := { dst := some 5, op := Op.load 129 (Operand.tmp 3), type := 129, pos := _, after := #[], guard := none }) (v := (.agg #[.int .i64 x0, .int .i64 x1, .int .i64 x2])) rfl (by kernel_rfl) (by kernel_rfl) (by kernel_rfl) (fun _ _ _ h => h) (Or.inl ⟨by rfl, fun w' hS => by (try dsimp only at hS); go_simp⟩) ⟨HX.out, HW.out⟩ ?_
  simp only [Act.put, List.setIfInBounds_toArray, List.set_cons_zero, List.set_cons_succ]
  refine wpAnyH_take (i := 2) (oi := { dst := some 7, op := Op.move (Operand.tmp 0), type := 180, pos := _, after := #[], guard := none }) (v := (.pointer (some ⟨zw, 0, none⟩))) rfl (by kernel_rfl) (by kernel_rfl) (by kernel_rfl) (fun _ _ _ h => h) (Or.inl ⟨by rfl, fun w' hS => by (try dsimp only at hS); go_simp⟩) ⟨HX.out, HW.out⟩ ?_
  simp only [Act.put, List.setIfInBounds_toArray, List.set_cons_zero, List.set_cons_succ]
  refine wpAnyH_take (i := 3) (oi := { dst := some 8, op := Op.nilCheck (Operand.tmp 7), type := 0, pos := _, after := #[{ on := 2, ground := Ground.data }], guard := none }) (v := (.pointer (some ⟨zw, 0, none⟩))) rfl (by kernel_rfl) (by kernel_rfl) (by kernel_rfl) (fun _ _ _ h => h) (Or.inl ⟨by rfl, fun w' hS => by (try dsimp only at hS); go_simp⟩) ⟨HX.out, HW.out⟩ ?_
  simp only [Act.put, List.setIfInBounds_toArray, List.set_cons_zero, List.set_cons_succ]
  refine wpAnyH_take (i := 4) (oi := { dst := some 9, op := Op.fieldAddr 32 (Operand.tmp 8) 1, type := 0, pos := _, after := #[{ on := 3, ground := Ground.data }], guard := none }) (v := (.pointer (some ⟨zw, 2, none⟩))) rfl (by kernel_rfl) (by kernel_rfl) (by kernel_rfl) (fun _ _ _ h => h) (Or.inl ⟨by rfl, fun w' hS => by (try dsimp only at hS); go_simp⟩) ⟨HX.out, HW.out⟩ ?_
  simp only [Act.put, List.setIfInBounds_toArray, List.set_cons_zero, List.set_cons_succ]
  refine wpAnyH_take (i := 5) (oi := { dst := some 10, op := Op.load 30 (Operand.tmp 9), type := 30, pos := _, after := #[{ on := 4, ground := Ground.data }], guard := none }) (v := (.slice v.a D.n v.q)) rfl (by kernel_rfl) (by kernel_rfl) (by kernel_rfl) (fun _ _ _ h => h) (Or.inl ⟨by rfl, fun w' hS => by (try dsimp only at hS); go_simp⟩) ⟨HX.out, HW.out⟩ ?_
  simp only [Act.put, List.setIfInBounds_toArray, List.set_cons_zero, List.set_cons_succ]
  refine wpAnyH_ready (rs := [1]) (by kernel_rfl) (by simp) ?_
  refine AllReadyH.cons (o := { dst := some 6, op := Op.buildSlice 30 1 #[(0, Operand.tmp 5)], type := 30, pos := _, after := #[{ on := 0, ground := Ground.data }], guard := none }) rfl (fun K hK => ?_) AllReadyH.nil
  go_simp
  have hbA : Blw wd (wd.alloc (.cells #[.int .i64 x0, .int .i64 x1, .int .i64 x2] 129)) := (Blw.refl _).alloc _
  have HA : Hid (Row (wd.alloc (.cells #[.int .i64 x0, .int .i64 x1, .int .i64 x2] 129)) w.heap.size 3 (fun i => if i = 0 then .int .i64 x0 else if i = 1 then .int .i64 x1 else .int .i64 x2) ∧ Row (wd.alloc (.cells #[.int .i64 x0, .int .i64 x1, .int .i64 x2] 129)) zw 4 (kb v D)) := ⟨HX.out.blw hbA, HW.out.blw hbA⟩
  clear hbA
  refine hK.out _ _ HA.out (fun hB => ?_)
  clear hK K hB
  try simp only [Act.put, List.setIfInBounds_toArray, List.set_cons_zero, List.set_cons_succ]
  refine wpAnyH_ready (rs := [6]) (by kernel_rfl) (by simp) ?_
  refine AllReadyH.cons (o := { dst := some 11, op := Op.call { callee := Callee.builtin Builtin.append, args := #[Operand.tmp 6, Operand.tmp 10], argTypes := #[30, 30] }, type := 30, pos := _, after := #[{ on := 1, ground := Ground.data }, { on := 5, ground := Ground.data }], guard := none }) rfl (fun K hK => ?_) AllReadyH.nil
  obtain ⟨a', c', w6, hrun, hb6, hK6, hR6, hc6⟩ := cons_append x0 x1 x2 HK.out (by omega) hR
  have HRN : Hid _ := hrun
  have HK6 : Hid (KOwn 3 (fun b => wd.heap.size ≤ b ∧ b < w6.heap.size) w6 a' (1 + D.n) (consK x0 x1 x2 D.F)) := hK6
  have HRM : Hid (Room a' (1 + D.n) c') := hR6
  have HC6 : Hid (c' ≤ 9223372036854775807) := hc6
  have H6 : Hid (Row w6 w.heap.size 3 (fun i => if i = 0 then .int .i64 x0 else if i = 1 then .int .i64 x1 else .int .i64 x2) ∧ Row w6 zw 4 (kb v D)) := ⟨HX.out.blw hb6, HW.out.blw hb6⟩
  have HB6 : Hid (Blw w w6) := HB.out.trans hb6
  have HS6 : Hid (w.heap.size ≤ wd.heap.size) := HB.out.size
  clear hrun hb6 hK6 hR6 hc6
  refine step_app (.tmp 6) (.tmp 10) 30 (by rfl) ?_
  refine ⟨_, _, HRN.out, ?_⟩
  refine hK.out _ _ H6.out (fun hB => ?_)
  clear hK K hB
  try simp only [Act.put, List.setIfInBounds_toArray, List.set_cons_zero, List.set_cons_succ]
  refine wpAnyH_take (i := 7) (oi := { dst := some 4, op := Op.assign (Operand.tmp 11), type := 30, pos := _, after := #[{ on := 6, ground := Ground.data }, { on := 6, ground := Ground.chain }, { on := 0, ground := Ground.phase }, { on := 1, ground := Ground.phase }, { on := 2, ground := Ground.phase }, { on := 3, ground := Ground.phase }, { on := 4, ground := Ground.phase }, { on := 5, ground := Ground.phase }, { on := 6, ground := Ground.phase }], guard := none }) (v := (.slice a' (1 + D.n) c')) rfl (by kernel_rfl) (by kernel_rfl) (by kernel_rfl) (fun _ _ _ h => h) (Or.inl ⟨by rfl, fun w' hS => by (try dsimp only at hS); go_simp⟩) H6.out ?_
  simp only [Act.put, List.setIfInBounds_toArray, List.set_cons_zero, List.set_cons_succ]
  refine wpAnyH_done (by kernel_rfl) ?_ _
  refine NoPanic.normal ?_
  clear HRN P0 HX HW HK HA
  rcases Nat.lt_or_ge 4 (1 + D.n) with h4 | h4
  · have h4' : ¬ ((1 : Int) + (D.n : Int) ≤ 4) := by omega
    obtain rfl : k = 4 := by omega
    clear hk
    go_wp2_with fail
    refine (firstOf_any a' (1 + D.n) c' 4 _ (by omega) HRM.out HC6.out).mono ?_
    rintro e w7 ⟨rfl, hb7⟩
    have HR7 : Hid (Row w7 zw 4 (kb v D)) := H6.out.2.blw hb7
    have HB7 : Hid (Blw w w7) := HB6.out.trans hb7
    have HS7 : Hid (w6.heap.size ≤ w7.heap.size) := hb7.size
    have HK7 : Hid (KOwn 3 (fun b => wd.heap.size ≤ b ∧ b < w6.heap.size) w7 a' (1 + D.n) (consK x0 x1 x2 D.F)) := HK6.out.blw hb7
    clear hb7 H6 HB6 HK6
    obtain ⟨-, -, s2, -⟩ := get4 HR7.out
    have f2 := HR7.out.frozen 2
    have m7 : Mod (fun x => x = zw) w7 (w7.setCell ⟨zw, 2, none⟩ (.slice a' 4 4)) := Mod.setCell (X := fun x => x = zw) _ (p := ⟨zw, 2, none⟩) rfl _
    have HN : Hid (∃ aa cc, Row (w7.setCell ⟨zw, 2, none⟩ (.slice a' 4 4)) zw 4 (kb ⟨v.b, aa, cc⟩ ⟨D.B, 4, consK x0 x1 x2 D.F, D.h⟩) ∧ KOwn 3 (fun b => w.heap.size ≤ b ∧ b < (w7.setCell ⟨zw, 2, none⟩ (.slice a' 4 4)).heap.size) (w7.setCell ⟨zw, 2, none⟩ (.slice a' 4 4)) aa (4) (consK x0 x1 x2 D.F) ∧ Room aa (4) cc ∧ cc ≤ 9223372036854775807 ∧ Mod (fun x => x = zw) w (w7.setCell ⟨zw, 2, none⟩ (.slice a' 4 4))) := by
      have hs6 := HS6.out
      have hs7 := HS7.out
      have hs8 := m7.size
      have hz := HZ.out
      refine ⟨a', 4, (HR7.out.set 2 _).congr fun i hi => ?_, ((KOwn.mod (K := 3) (X := fun b => wd.heap.size ≤ b ∧ b < w6.heap.size) ⟨by omega, fun h0 => ?_⟩ m7 (fun b hb e => by omega))).mono (fun b hb => ⟨by omega, by omega⟩), ?_, by omega, ?_⟩
      · match i, hi with
        | 0, _ => rfl
        | 1, _ => rfl
        | 2, _ => rfl
        | 3, _ => rfl
      · obtain ⟨b, hx, e, r⟩ := HK7.out.2 (by omega)
        exact ⟨b, hx, e, row_front r (by omega)⟩
      · rcases HRM.out with ⟨e, e2, e3⟩ | ⟨g, e, e2⟩
        · omega
        · exact Or.inr ⟨g, e, Nat.le_refl _⟩
      · exact Mod.of_blw HB7.out m7
    clear HR7 HB7 HK7 HS7 HS6 HB HRM HC6 m7 HZ hR
    go_wp2
    refine bodyPost_end (results_none rfl _ _ _) rfl ?_
    exact ⟨⟨_, rfl⟩, HN.out⟩
  · have h4' : (1 : Int) + (D.n : Int) ≤ 4 := by omega
    obtain rfl : k = 1 + D.n := by omega
    clear hk
    go_wp2_with fail
    rw [show (1 : Int) + (D.n : Int) = ((1 + D.n : Nat) : Int) by omega]
    refine (firstOf_any a' (1 + D.n) c' (1 + D.n) _ (by omega) HRM.out HC6.out).mono ?_
    rintro e w7 ⟨rfl, hb7⟩
    have HR7 : Hid (Row w7 zw 4 (kb v D)) := H6.out.2.blw hb7
    have HB7 : Hid (Blw w w7) := HB6.out.trans hb7
    have HS7 : Hid (w6.heap.size ≤ w7.heap.size) := hb7.size
    have HK7 : Hid (KOwn 3 (fun b => wd.heap.size ≤ b ∧ b < w6.heap.size) w7 a' (1 + D.n) (consK x0 x1 x2 D.F)) := HK6.out.blw hb7
    clear hb7 H6 HB6 HK6
    obtain ⟨-, -, s2, -⟩ := get4 HR7.out
    have f2 := HR7.out.frozen 2
    have m7 : Mod (fun x => x = zw) w7 (w7.setCell ⟨zw, 2, none⟩ (.slice a' (1 + D.n) (1 + D.n))) := Mod.setCell (X := fun x => x = zw) _ (p := ⟨zw, 2, none⟩) rfl _
    have HN : Hid (∃ aa cc, Row (w7.setCell ⟨zw, 2, none⟩ (.slice a' (1 + D.n) (1 + D.n))) zw 4 (kb ⟨v.b, aa, cc⟩ ⟨D.B, (1 + D.n), consK x0 x1 x2 D.F, D.h⟩) ∧ KOwn 3 (fun b => w.heap.size ≤ b ∧ b < (w7.setCell ⟨zw, 2, none⟩ (.slice a' (1 + D.n) (1 + D.n))).heap.size) (w7.setCell ⟨zw, 2, none⟩ (.slice a' (1 + D.n) (1 + D.n))) aa ((1 + D.n)) (consK x0 x1 x2 D.F) ∧ Room aa ((1 + D.n)) cc ∧ cc ≤ 9223372036854775807 ∧ Mod (fun x => x = zw) w (w7.setCell ⟨zw, 2, none⟩ (.slice a' (1 + D.n) (1 + D.n)))) := by
      have hs6 := HS6.out
      have hs7 := HS7.out
      have hs8 := m7.size
      have hz := HZ.out
      refine ⟨a', (1 + D.n), (HR7.out.set 2 _).congr fun i hi => ?_, ((KOwn.mod (K := 3) (X := fun b => wd.heap.size ≤ b ∧ b < w6.heap.size) ⟨by omega, fun h0 => ?_⟩ m7 (fun b hb e => by omega))).mono (fun b hb => ⟨by omega, by omega⟩), ?_, by omega, ?_⟩
      · match i, hi with
        | 0, _ => rfl
        | 1, _ => rfl
        | 2, _ => rfl
        | 3, _ => rfl
      · obtain ⟨b, hx, e, r⟩ := HK7.out.2 (by omega)
        exact ⟨b, hx, e, row_front r (by omega)⟩
      · rcases HRM.out with ⟨e, e2, e3⟩ | ⟨g, e, e2⟩
        · omega
        · exact Or.inr ⟨g, e, Nat.le_refl _⟩
      · exact Mod.of_blw HB7.out m7
    clear HR7 HB7 HK7 HS7 HS6 HB HRM HC6 m7 HZ hR
    go_wp2
    refine bodyPost_end (results_none rfl _ _ _) rfl ?_
    exact ⟨⟨_, rfl⟩, HN.out⟩
end Go.Proofs.Ytbpdopcdhnemfaa
