/- 'spec.l1Own': new memory that reads as the old one. -/
import Derived.Test.YtglllnklcnlcjaaOwn
namespace Go.Proofs.Ytglllnklcnlcjaa
open Go.RowKit
set_option linter.unusedSimpArgs false
theorem owned_bools {w : World} {g n cap : Nat} {xs : List Value} {f : Nat → Bool} (h : w.ownsRow 0 4 1 (.slice (some ⟨g, 0, none⟩) n cap) n xs) (hf : ∀ i, i < n → xs[i]? = some (.bool (f i))) (hn : 0 < n) : Row w g n (fun i => .bool (f i)) := owned_row h hf hn
/-- Behind the append of the marks. -/
structure Marked (w wA : World) (M g cap : Nat) (a b c : Value) (d : Nat → Bool) : Prop where
  blw : Blw w wA
  box : Row wA w.heap.size 3 (fun i => if i = 0 then a else if i = 1 then b else c)
  res : Row wA (w.heap.size + 1) 3 (fun _ => .slice none 0 0)
  bd : Row wA g 12 (fun i => .bool (d i))
  lo : w.heap.size + 1 < g
  sz : M = wA.heap.size
theorem own_start {w wA : World} {M g cap : Nat} {a b c : Value} {d : Nat → Bool} (h : Marked w wA M g cap a b c d) (l1 l2 : Nat → Nat) (sv cv : Nat → Nat → Int) : ∃ X1 X2 F1 c1 F2 c2,
    Build wA (wA.alloc (.cells #[.slice none 0 0, .slice none 0 0, .slice (some ⟨g, 0, none⟩) 12 cap] 26)) M (.slice none 0 0) (.slice none 0 0) (.slice (some ⟨g, 0, none⟩) 12 cap) 0 0 l1 l2 sv cv X1 X2 F1 c1 F2 c2 := by
  refine ⟨fun _ => False, fun _ => False, _, _, _, _, (Blw.refl _).alloc _, ?_, bld_nil _ _ _ _, bld_nil _ _ _ _, fun b hb => hb.elim, fun b hb => hb.elim, Nat.le_of_eq h.sz.symm⟩
  have := row_mem wA (.slice none 0 0) (.slice none 0 0) (.slice (some ⟨g, 0, none⟩) 12 cap) 26
  rw [← h.sz] at this
  exact this
theorem own_keep1 {w wr w' : World} {M : Nat} {v1 v2 v3 : Value} {k1 k2 : Nat} {l1 l2 : Nat → Nat} {s c : Nat → Nat → Int} {X1 X2 : Nat → Prop} {F1 c1 F2 c2 : Nat → Nat} (B : Build w wr M v1 v2 v3 k1 k2 l1 l2 s c X1 X2 F1 c1 F2 c2)
    (hS : Mod (fun x => v1.ownBlock = some x ∨ x = M) wr w') {p : Addr} {u : Value} (hp : w.cell? p = some u) : w'.cell? p = some u := by
  have hlt := World.block_lt_of_cell? _ _ hp
  refine hS.cell (B.blw.cell hp) (fun h => ?_)
  rcases h with h | h
  · have := (B.x1 _ (B.b1.blk _ h)).1; omega
  · have := B.wm; omega
theorem own_keep2 {w wr w' : World} {M : Nat} {v1 v2 v3 : Value} {k1 k2 : Nat} {l1 l2 : Nat → Nat} {s c : Nat → Nat → Int} {X1 X2 : Nat → Prop} {F1 c1 F2 c2 : Nat → Nat} (B : Build w wr M v1 v2 v3 k1 k2 l1 l2 s c X1 X2 F1 c1 F2 c2)
    (hS : Mod (fun x => v2.ownBlock = some x ∨ x = M) wr w') {p : Addr} {u : Value} (hp : w.cell? p = some u) : w'.cell? p = some u := by
  have hlt := World.block_lt_of_cell? _ _ hp
  refine hS.cell (B.blw.cell hp) (fun h => ?_)
  rcases h with h | h
  · have := (B.x2 _ (B.b2.blk _ h)).1; omega
  · have := B.wm; omega
theorem own_lines {Y : Nat → Prop} {w : World} {b o : Nat} {len : Nat → Nat} {v : Nat → Nat → Int} (h : ∀ k, k < 12 → ∃ e ce, w.cell? ⟨b, o + k, none⟩ = some (.slice e (len k) ce) ∧ IntsAt Y w e (len k) (v k)) (h4 : ∀ k, k < 12 → len k = 4) :
    ∀ k, k < 12 → ∃ b' o' ce, w.cell? ⟨b, o + k, none⟩ = some (.slice (some ⟨b', o', none⟩) 4 ce) ∧ ∀ i, i < 4 → w.cell? ⟨b', o' + i, none⟩ = some (.int .i64 (v k i)) := fun k hk => by
  obtain ⟨e, ce, h1, h2⟩ := h k hk
  rw [h4 k hk] at h1 h2
  obtain ⟨b', o', rfl, -, -⟩ := h2.2 0 (by omega)
  refine ⟨b', o', ce, h1, fun i hi => ?_⟩
  obtain ⟨b'', o'', e1, -, e2⟩ := h2.2 i hi
  simp only [Option.some.injEq, Addr.mk.injEq, and_true] at e1
  rw [e1.1, e1.2]; exact e2
theorem own_end {w wA wr we : World} {M g cap d1 d2 : Nat} {a b c : Value} {d : Nat → Bool} {a1 a2 : Option Addr} {sv cv : Nat → Nat → Int} {X1 X2 : Nat → Prop} {F1 c1 F2 c2 : Nat → Nat} (h : Marked w wA M g cap a b c d)
    (B : Build wA wr M (.slice a1 12 d1) (.slice a2 12 d2) (.slice (some ⟨g, 0, none⟩) 12 cap) 12 12 (fun _ => 4) (fun _ => 4) sv cv X1 X2 F1 c1 F2 c2) (hm : Mod (fun x => x = w.heap.size + 1) wr we) :
    MemOwn (fun b => w.heap.size ≤ b ∧ b < we.heap.size) we ⟨a1, a2, some ⟨g, 0, none⟩, d1, d2, cap⟩ (MD.full sv cv d) := by
  have hr : w.heap.size + 1 < wA.heap.size := h.res.lt
  have hg : g < wA.heap.size := h.bd.lt
  have hl := h.lo
  have hz := B.blw.size
  have hz2 := hm.size
  have n1 : ∀ b, X1 b → ¬ b = w.heap.size + 1 := fun b hb => by have := (B.x1 b hb).1; omega
  have n2 : ∀ b, X2 b → ¬ b = w.heap.size + 1 := fun b hb => by have := (B.x2 b hb).1; omega
  refine ⟨X1, X2, fun b => b = g, fun b hb => ?_, fun b hb => ?_, fun b hb => ?_, (B.b1.mod hm n1).lines (by omega), (B.b2.mod hm n2).lines (by omega), ⟨by show 12 ≤ _; omega, fun _ => ⟨g, rfl, rfl, ?_⟩⟩⟩
  · have := B.x1 b hb
    exact ⟨⟨by omega, by omega⟩, this.2.2.2, by omega⟩
  · have := B.x2 b hb
    exact ⟨⟨by omega, by omega⟩, by omega⟩
  · subst hb
    exact ⟨by omega, by omega⟩
  · exact (h.bd.blw B.blw).mod hm (by omega)
/-- What the append of the marks wants and leaves. -/
theorem own_append (w : World) (b1 o1 cc1 b2 o2 cc2 b3 o3 cc3 : Nat) (dd : Nat → Bool) (hd : ∀ k, k < 12 → w.cell? ⟨b3, o3 + k, none⟩ = some (.bool (dd k))) :
    let W := ((w.alloc (.cells #[.slice (some ⟨b1, o1, none⟩) 12 cc1, .slice (some ⟨b2, o2, none⟩) 12 cc2, .slice (some ⟨b3, o3, none⟩) 12 cc3] 26)).alloc (.cells #[.slice none 0 0, .slice none 0 0, .slice none 0 0] 26)).alloc (.cells #[] 4)
    W.ownsRow 0 4 1 (.slice (some ⟨w.heap.size + 1 + 1, 0, none⟩) 0 0) 0 [] ∧
    (∀ j u, ((List.range 12).map fun i => Value.bool (dd i))[j]? = some u → W.cell? ((⟨b3, o3, none⟩ : Addr).add j) = some u) ∧
    (∀ u ∈ ((List.range 12).map fun i => Value.bool (dd i)), u.oneCell' = true) ∧
    ∀ g cap wA, World.ownsRow wA 0 4 1 (.slice (some ⟨g, 0, none⟩) 12 cap) 12 ((List.range 12).map fun i => Value.bool (dd i)) → W.grownBy wA (some (w.heap.size + 1 + 1)) → (some (w.heap.size + 1 + 1) = some g ∨ g = W.heap.size) → g < wA.heap.size →
      Marked w wA wA.heap.size g cap (.slice (some ⟨b1, o1, none⟩) 12 cc1) (.slice (some ⟨b2, o2, none⟩) 12 cc2) (.slice (some ⟨b3, o3, none⟩) 12 cc3) dd := by
  intro W
  have hb : Blw w W := (((Blw.refl _).alloc _).alloc _).alloc _
  have hz : W.heap.size = w.heap.size + 1 + 1 + 1 := by simp [W]
  refine ⟨?_, fun j u hj => ?_, fun u hu => ?_, fun g cap wA own' gr hg hgl => ?_⟩
  · refine own_empty ?_
    have := heap_alloc_new ((w.alloc (.cells #[.slice (some ⟨b1, o1, none⟩) 12 cc1, .slice (some ⟨b2, o2, none⟩) 12 cc2, .slice (some ⟨b3, o3, none⟩) 12 cc3] 26)).alloc (.cells #[.slice none 0 0, .slice none 0 0, .slice none 0 0] 26)) (.cells #[] 4)
    rw [World.size_alloc, World.size_alloc] at this
    exact this
  · have hlt : j < 12 := by
      have := (List.getElem?_eq_some_iff.1 hj).1
      simpa using this
    rw [Addr.add_mid, hb.cell (hd j hlt)]
    simpa [hlt] using hj
  · obtain ⟨i, _, rfl⟩ := List.mem_map.1 hu
    rfl
  · have hm : Mod (fun x => x = w.heap.size + 1 + 1) W wA := ⟨gr.os, gr.tape, gr.output, gr.size, fun k hk hx => gr.block k hk (fun e => hx (by simpa using e))⟩
    have r0 : Row W w.heap.size 3 (fun i => if i = 0 then .slice (some ⟨b1, o1, none⟩) 12 cc1 else if i = 1 then .slice (some ⟨b2, o2, none⟩) 12 cc2 else .slice (some ⟨b3, o3, none⟩) 12 cc3) := (row_mem w _ _ _ 26).blw (((Blw.refl _).alloc _).alloc _)
    have r1 : Row W (w.heap.size + 1) 3 (fun _ => .slice none 0 0) := by
      have := (row_box (w.alloc (.cells #[.slice (some ⟨b1, o1, none⟩) 12 cc1, .slice (some ⟨b2, o2, none⟩) 12 cc2, .slice (some ⟨b3, o3, none⟩) 12 cc3] 26)) 26).blw ((Blw.refl _).alloc (.cells #[] 4))
      rw [World.size_alloc] at this
      exact this
    refine ⟨Mod.blw hb hm (fun i hi => by omega), r0.mod hm (by omega), r1.mod hm (by omega), owned_bools own' (fun i hi => by simp [hi]) (by omega), ?_, rfl⟩
    rcases hg with hg | hg
    · simp only [Option.some.injEq] at hg; omega
    · omega
set_option maxRecDepth 10000 in
set_option maxHeartbeats 3200000 in
theorem l1Own_any (m : MV) (MM : MD) (Y : Nat → Prop) (w : World) (gd : MM.Good) (h : MemAt Y w m MM) :
    Calls Try.prog 97 #[m.val MM] w fun e w' => ∃ m' : MV, e = .returned (m'.val (MD.full MM.v1 MM.v2 MM.d)) ∧ MemOwn (fun b => w.heap.size ≤ b ∧ b < w'.heap.size) w' m' (MD.full MM.v1 MM.v2 MM.d) ∧ Blw w w' := by
  obtain ⟨s, c, d⟩ := h
  obtain ⟨a1, a2, a3, cc1, cc2, cc3⟩ := m
  obtain ⟨n1, n2, n3, l1, l2, sv, cv, dd⟩ := MM
  obtain ⟨g1, g2, g3, ok⟩ := gd
  simp only at g1 g2 g3
  subst g1 g2 g3
  simp only [MV.val, MD.full] at *
  obtain ⟨b1, o1, e0, ce0, rfl, -⟩ := s.2 0 (by omega)
  obtain ⟨b2, o2, e0', ce0', rfl, -⟩ := c.2 0 (by omega)
  obtain ⟨b3, o3, rfl, -⟩ := d.2 0 (by omega)
  have hs := lines_fixed s
  have hc := lines_fixed c
  have hd := bools_fixed d
  clear s c d e0 ce0 e0' ce0'
  obtain ⟨i0, hi, hz0, hz1, hz2⟩ := info_parts tinfo4
  have HA : Hid _ := own_append w b1 o1 cc1 b2 o2 cc2 b3 o3 cc3 dd hd
  go_enter Try.func97, Try.ntmps97
  go_wp2_with (at_builtin; refine wpList_append_lies _ rfl (.tmp 5) (.tmp 7) 24 rfl 0 4 i0 (.bool false) 1 1 Try.underlying24 hi hz0 hz1 hz2 rfl (by decide) _ 0 [] rfl HA.out.1 ⟨b3, o3, none⟩ 12 cc3 ((List.range 12).map fun i => .bool (dd i)) rfl (by simp) HA.out.2.1 HA.out.2.2.1 (by decide) (by unfold maxLen; omega) (by omega) (Nat.zero_le _) _ rfl ?_; intro g cap wA own' gr hg hgl; simp only [Nat.zero_add, List.nil_append] at own' hg hgl gr; have MK := HA.out.2.2.2 g cap wA own' gr hg hgl; clear own' gr hg hgl; have pA0 := (get3 (MK.box.blw ((Blw.refl wA).alloc (.cells #[.slice none 0 0, .slice none 0 0, .slice (some ⟨g, 0, none⟩) 12 cap] 26)))).1; simp only [Nat.zero_add])
  clear HA
  have ok1 : ∀ k, k < 12 → l1 k = 4 := fun k hk => (ok k hk).a.1
  have ok2 : ∀ k, k < 12 → l2 k = 4 := fun k hk => (ok k hk).b.1
  replace hs := own_lines hs ok1
  replace hc := own_lines hc ok2
  clear ok ok1 ok2 hd pA0 hi hz0 hz1 hz2
  have hS := own_start MK (fun _ => 4) (fun _ => 4) sv cv
  generalize wA.heap.size = M at MK hS ⊢
  have HS : Hid _ := hs
  have HC : Hid _ := hc
  clear hs hc
  go_loopw [13] (fun i wr => ∃ k v1 v2 X1 X2 F1 c1 F2 c2, k ≤ 12 ∧ i = .int .i64 (k : Nat) ∧ Build wA wr M v1 v2 (.slice (some ⟨g, 0, none⟩) 12 cap) k k (fun _ => 4) (fun _ => 4) sv cv X1 X2 F1 c1 F2 c2) (fun i _ => 12 - (intOf i).toNat)
  case atStart =>
    obtain ⟨X1, X2, F1, c1, F2, c2, h⟩ := hS
    exact ⟨0, _, _, X1, X2, F1, c1, F2, c2, by omega, rfl, h⟩
  case round =>
    obtain ⟨k, v1, v2, X1, X2, F1, c1, F2, c2, hk, rfl, B⟩ := hrel
    clear hS
    by_cases hlt : k < 12
    · have p0 := B.cell0
      obtain ⟨b', o', ce, q0, q1⟩ := HS.out k hlt
      have RA : ∀ w', Mod (fun x => v1.ownBlock = some x ∨ x = M) wr w' → w'.cell? ⟨w.heap.size, 0, none⟩ = some (.slice (some ⟨b1, o1, none⟩) 12 cc1) := fun w' hS => own_keep1 B hS (get3 MK.box).1
      have RB : ∀ w', Mod (fun x => v1.ownBlock = some x ∨ x = M) wr w' → w'.cell? ⟨b1, o1 + k, none⟩ = some (.slice (some ⟨b', o', none⟩) 4 ce) := fun w' hS => own_keep1 B hS (MK.blw.cell q0)
      have RC : Hid (∀ w', Mod (fun x => v1.ownBlock = some x ∨ x = M) wr w' → ∀ i, i < 4 → w'.cell? ⟨b', o' + i, none⟩ = some (.int .i64 (sv k i))) := fun w' hS i hi => own_keep1 B hS (MK.blw.cell (q1 i hi))
      clear q0 q1
      go_wp2
      go_cut [] from 14 to 38 (fun wc => ∃ v1 X1 F1 c1, Build wA wc M v1 v2 (.slice (some ⟨g, 0, none⟩) 12 cap) (k + 1) k (fun _ => 4) (fun _ => 4) sv cv X1 X2 F1 c1 F2 c2)
      case first =>
          refine wp_region_noPanic ?_
          refine wp_region_held_drew (S := fun w' => Mod (fun x => v1.ownBlock = some x ∨ x = M) wr w') (by kernel_rfl) ((Blw.refl wr).drew.mod _) (fun hS1 => ?_)
          have h1 : Blw wr wr.drew := (Blw.refl wr).drew
          revert hS1 h1
          generalize wr.drew = w1
          intro hS1 h1
          refine wpAnyH_take (i := 0) (oi := { dst := some 16, op := Op.fieldAddr 26 (Operand.tmp 3) 0, type := 0, pos := _, after := #[], guard := none }) (v := .pointer (some ⟨M, 0, none⟩)) rfl (by kernel_rfl) (by kernel_rfl) (by kernel_rfl) (fun _ _ _ h => h) (Or.inl ⟨by rfl, fun w' hS => by (try dsimp only at hS); go_simp⟩) hS1 ?_
          simp only [Act.put, List.setIfInBounds_toArray, List.set_cons_zero, List.set_cons_succ]
          refine wpAnyH_take (i := 2) (oi := { dst := some 18, op := Op.fieldAddr 26 (Operand.tmp 1) 0, type := 0, pos := _, after := #[], guard := none }) (v := .pointer (some ⟨w.heap.size, 0, none⟩)) rfl (by kernel_rfl) (by kernel_rfl) (by kernel_rfl) (fun _ _ _ h => h) (Or.inl ⟨by rfl, fun w' hS => by (try dsimp only at hS); go_simp⟩) hS1 ?_
          simp only [Act.put, List.setIfInBounds_toArray, List.set_cons_zero, List.set_cons_succ]
          refine wpAnyH_take (i := 3) (oi := { dst := some 19, op := Op.load 23 (Operand.tmp 18), type := 23, pos := _, after := #[{ on := 2, ground := Ground.data }], guard := none }) (v := .slice (some ⟨b1, o1, none⟩) 12 cc1) rfl (by kernel_rfl) (by kernel_rfl) (by kernel_rfl) (fun _ _ _ h => h) (Or.inl ⟨by rfl, fun w' hS => by (try dsimp only at hS); go_simp⟩) hS1 ?_
          simp only [Act.put, List.setIfInBounds_toArray, List.set_cons_zero, List.set_cons_succ]
          refine wpAnyH_take (i := 4) (oi := { dst := some 20, op := Op.move (Operand.tmp 4), type := 3, pos := _, after := #[], guard := none }) (v := .int .i64 k) rfl (by kernel_rfl) (by kernel_rfl) (by kernel_rfl) (fun _ _ _ h => h) (Or.inl ⟨by rfl, fun w' hS => by (try dsimp only at hS); go_simp⟩) hS1 ?_
          simp only [Act.put, List.setIfInBounds_toArray, List.set_cons_zero, List.set_cons_succ]
          refine wpAnyH_take (i := 5) (oi := { dst := some 21, op := Op.indexAddr 23 (Operand.tmp 19) (Operand.tmp 20), type := 0, pos := _, after := #[{ on := 3, ground := Ground.data }, { on := 4, ground := Ground.data }], guard := none }) (v := .pointer (some ⟨b1, o1 + k, none⟩)) rfl (by kernel_rfl) (by kernel_rfl) (by kernel_rfl) (fun _ _ _ h => h) (Or.inl ⟨by rfl, fun w' hS => by (try dsimp only at hS); go_simp⟩) hS1 ?_
          simp only [Act.put, List.setIfInBounds_toArray, List.set_cons_zero, List.set_cons_succ]
          refine wpAnyH_take (i := 6) (oi := { dst := some 22, op := Op.load 126 (Operand.tmp 21), type := 126, pos := _, after := #[{ on := 5, ground := Ground.data }], guard := none }) (v := .agg #[.slice (some ⟨b', o', none⟩) 4 ce]) rfl (by kernel_rfl) (by kernel_rfl) (by kernel_rfl) (fun _ _ _ h => h) (Or.inl ⟨by rfl, fun w' hS => by (try dsimp only at hS); go_simp⟩) hS1 ?_
          simp only [Act.put, List.setIfInBounds_toArray, List.set_cons_zero, List.set_cons_succ]
          refine wpAnyH_ready (rs := [1, 7]) (by kernel_rfl) (by simp) ?_
          refine AllReadyH.cons (o := { dst := some 17, op := Op.load 23 (Operand.tmp 16), type := 23, pos := _, after := #[{ on := 0, ground := Ground.data }], guard := none }) rfl (fun K hK => ?_) (AllReadyH.cons (o := { dst := some 23, op := Op.call { callee := Callee.value (Operand.func 100), args := #[Operand.tmp 22], argTypes := #[126] }, type := 126, pos := _, after := #[{ on := 6, ground := Ground.data }], guard := none }) rfl (fun K hK => ?_) AllReadyH.nil)
          · -- operation 1
            have mc := h1.cell p0
            go_simp
            refine hK.out _ _ hS1 (fun hS2 => ?_)
            clear hK K mc
            try simp only [Act.put, List.setIfInBounds_toArray, List.set_cons_zero, List.set_cons_succ]
            clear hS2
            refine wpAnyH_ready (rs := [7]) (by kernel_rfl) (by simp) ?_
            refine AllReadyH.cons (o := { dst := some 23, op := Op.call { callee := Callee.value (Operand.func 100), args := #[Operand.tmp 22], argTypes := #[126] }, type := 126, pos := _, after := #[{ on := 6, ground := Ground.data }], guard := none }) rfl (fun K hK => ?_) AllReadyH.nil
            · -- operation 7
              go_simp
              refine (l1Copy_any _ _ _ 4 (sv k) _ (by omega) (by omega) (RC.out _ hS1)).mono ?_
              rintro e w2 ⟨b, cc, rfl, hlo0, hhi, hrow, hb2⟩
              have h2 := h1.trans hb2
              have hlo : wr.heap.size ≤ b := by have := h1.size; omega
              refine hK.out _ _ (h2.mod _) (fun hS2 => ?_)
              clear hK K hlo0 hb2
              try simp only [Act.put, List.setIfInBounds_toArray, List.set_cons_zero, List.set_cons_succ]
              have hbx : ¬ X1 b := fun hx => by have := (B.x1 b hx).2.1; omega
              refine wpAnyH_ready (rs := [8]) (by kernel_rfl) (by simp) ?_
              refine AllReadyH.cons (o := { dst := some 24, op := Op.buildSlice 23 1 #[(0, Operand.tmp 23)], type := 23, pos := _, after := #[{ on := 7, ground := Ground.data }], guard := none }) rfl (fun K hK => ?_) AllReadyH.nil
              · -- operation 8
                go_simp
                have hnew : (w2.alloc (.cells #[.slice (some ⟨b, 0, none⟩) 4 cc] 126)).cell? ⟨w2.heap.size, 0, none⟩ = some (.slice (some ⟨b, 0, none⟩) 4 cc) := by go_cell
                have hbw : Blw w2 (w2.alloc (.cells #[.slice (some ⟨b, 0, none⟩) 4 cc] 126)) := (Blw.refl _).alloc _
                refine hK.out _ _ ((h2.trans hbw).mod _) (fun hS3 => ?_)
                clear hK K
                try simp only [Act.put, List.setIfInBounds_toArray, List.set_cons_zero, List.set_cons_succ]
                revert hnew hbw hS3
                generalize w2.alloc (.cells #[.slice (some ⟨b, 0, none⟩) 4 cc] 126) = w3
                intro hnew hbw hS3
                generalize w2.heap.size = nb at hnew ⊢
                replace hrow := hrow.blw hbw
                replace hhi := Nat.lt_of_lt_of_le hhi hbw.size
                have h3 := h2.trans hbw
                clear hbw
                refine wpAnyH_ready (rs := [9]) (by kernel_rfl) (by simp) ?_
                refine AllReadyH.cons (o := { dst := some 25, op := Op.call { callee := Callee.builtin Builtin.append, args := #[Operand.tmp 17, Operand.tmp 24], argTypes := #[23, 23] }, type := 23, pos := _, after := #[{ on := 1, ground := Ground.data }, { on := 8, ground := Ground.data }, { on := 7, ground := Ground.chain }], guard := none }) rfl (fun K hK => ?_) AllReadyH.nil
                refine step_append_line rfl (.tmp 17) (.tmp 24) rfl B.b1 rfl ⟨nb, 0, none⟩ b cc rfl (by omega) (by omega) hbx h3 hnew hrow ?_
                intro g cap wN hN hm hg hgl
                have hSN : Mod (fun x => v1.ownBlock = some x ∨ x = M) wr wN := Mod.trans (h3.mod _) (hm.mono (fun x hx => Or.inl hx))
                refine hK.out _ _ hSN (fun hSm => ?_)
                clear hK K
                try simp only [Act.put, List.setIfInBounds_toArray, List.set_cons_zero, List.set_cons_succ]
                refine wpAnyH_take (i := 10) (oi := { dst := some 26, op := Op.fieldAddr 26 (Operand.tmp 3) 0, type := 0, pos := _, after := #[{ on := 0, ground := Ground.phase }, { on := 1, ground := Ground.phase }, { on := 2, ground := Ground.phase }, { on := 3, ground := Ground.phase }, { on := 4, ground := Ground.phase }, { on := 5, ground := Ground.phase }, { on := 6, ground := Ground.phase }, { on := 7, ground := Ground.phase }, { on := 8, ground := Ground.phase }, { on := 9, ground := Ground.phase }], guard := none }) (v := .pointer (some ⟨M, 0, none⟩)) rfl (by kernel_rfl) (by kernel_rfl) (by kernel_rfl) (fun _ _ _ h => h) (Or.inl ⟨by rfl, fun w' hS => by (try dsimp only at hS); go_simp⟩) hSm ?_
                simp only [Act.put, List.setIfInBounds_toArray, List.set_cons_zero, List.set_cons_succ]
                have QQ := build_q1 B h3 hm
                obtain ⟨qq0, qq1⟩ := QQ
                refine wpAnyH_ready (rs := [11]) (by kernel_rfl) (by simp) ?_
                refine AllReadyH.cons (o := { dst := none, op := Op.store 23 (Operand.tmp 26) (Operand.tmp 25), type := 0, pos := _, after := #[{ on := 10, ground := Ground.data }, { on := 9, ground := Ground.data }, { on := 9, ground := Ground.chain }, { on := 0, ground := Ground.phase }, { on := 1, ground := Ground.phase }, { on := 2, ground := Ground.phase }, { on := 3, ground := Ground.phase }, { on := 4, ground := Ground.phase }, { on := 5, ground := Ground.phase }, { on := 6, ground := Ground.phase }, { on := 7, ground := Ground.phase }, { on := 8, ground := Ground.phase }, { on := 9, ground := Ground.phase }], guard := none }) rfl (fun K hK => ?_) AllReadyH.nil
                go_simp
                refine hK.out _ _ (hSm.trans (Mod.setCell (X := fun x => v1.ownBlock = some x ∨ x = M) _ (p := ⟨M, 0, none⟩) (Or.inr rfl) _)) (fun hSe => ?_)
                clear hK K qq0 qq1 hSe hSm hSN
                refine wpAnyH_done (by kernel_rfl) ?_ _
                refine NoPanic.normal ?_
                have BN := build_first B h3 hlo hhi hN hm hg hgl
                clear hN hm hg hgl hnew hrow RA RB
                go_wp2
                go_meet
                exact ⟨_, _, _, _, BN⟩
          · -- operation 7
            go_simp
            refine (l1Copy_any _ _ _ 4 (sv k) _ (by omega) (by omega) (RC.out _ hS1)).mono ?_
            rintro e w2 ⟨b, cc, rfl, hlo0, hhi, hrow, hb2⟩
            have h2 := h1.trans hb2
            have hlo : wr.heap.size ≤ b := by have := h1.size; omega
            refine hK.out _ _ (h2.mod _) (fun hS2 => ?_)
            clear hK K hlo0 hb2
            try simp only [Act.put, List.setIfInBounds_toArray, List.set_cons_zero, List.set_cons_succ]
            have hbx : ¬ X1 b := fun hx => by have := (B.x1 b hx).2.1; omega
            refine wpAnyH_ready (rs := [1, 8]) (by kernel_rfl) (by simp) ?_
            refine AllReadyH.cons (o := { dst := some 17, op := Op.load 23 (Operand.tmp 16), type := 23, pos := _, after := #[{ on := 0, ground := Ground.data }], guard := none }) rfl (fun K hK => ?_) (AllReadyH.cons (o := { dst := some 24, op := Op.buildSlice 23 1 #[(0, Operand.tmp 23)], type := 23, pos := _, after := #[{ on := 7, ground := Ground.data }], guard := none }) rfl (fun K hK => ?_) AllReadyH.nil)
            · -- operation 1
              have mc := h2.cell p0
              go_simp
              refine hK.out _ _ hS2 (fun hS3 => ?_)
              clear hK K mc
              try simp only [Act.put, List.setIfInBounds_toArray, List.set_cons_zero, List.set_cons_succ]
              clear hS3
              refine wpAnyH_ready (rs := [8]) (by kernel_rfl) (by simp) ?_
              refine AllReadyH.cons (o := { dst := some 24, op := Op.buildSlice 23 1 #[(0, Operand.tmp 23)], type := 23, pos := _, after := #[{ on := 7, ground := Ground.data }], guard := none }) rfl (fun K hK => ?_) AllReadyH.nil
              · -- operation 8
                go_simp
                have hnew : (w2.alloc (.cells #[.slice (some ⟨b, 0, none⟩) 4 cc] 126)).cell? ⟨w2.heap.size, 0, none⟩ = some (.slice (some ⟨b, 0, none⟩) 4 cc) := by go_cell
                have hbw : Blw w2 (w2.alloc (.cells #[.slice (some ⟨b, 0, none⟩) 4 cc] 126)) := (Blw.refl _).alloc _
                refine hK.out _ _ ((h2.trans hbw).mod _) (fun hS3 => ?_)
                clear hK K
                try simp only [Act.put, List.setIfInBounds_toArray, List.set_cons_zero, List.set_cons_succ]
                revert hnew hbw hS3
                generalize w2.alloc (.cells #[.slice (some ⟨b, 0, none⟩) 4 cc] 126) = w3
                intro hnew hbw hS3
                generalize w2.heap.size = nb at hnew ⊢
                replace hrow := hrow.blw hbw
                replace hhi := Nat.lt_of_lt_of_le hhi hbw.size
                have h3 := h2.trans hbw
                clear hbw
                refine wpAnyH_ready (rs := [9]) (by kernel_rfl) (by simp) ?_
                refine AllReadyH.cons (o := { dst := some 25, op := Op.call { callee := Callee.builtin Builtin.append, args := #[Operand.tmp 17, Operand.tmp 24], argTypes := #[23, 23] }, type := 23, pos := _, after := #[{ on := 1, ground := Ground.data }, { on := 8, ground := Ground.data }, { on := 7, ground := Ground.chain }], guard := none }) rfl (fun K hK => ?_) AllReadyH.nil
                refine step_append_line rfl (.tmp 17) (.tmp 24) rfl B.b1 rfl ⟨nb, 0, none⟩ b cc rfl (by omega) (by omega) hbx h3 hnew hrow ?_
                intro g cap wN hN hm hg hgl
                have hSN : Mod (fun x => v1.ownBlock = some x ∨ x = M) wr wN := Mod.trans (h3.mod _) (hm.mono (fun x hx => Or.inl hx))
                refine hK.out _ _ hSN (fun hSm => ?_)
                clear hK K
                try simp only [Act.put, List.setIfInBounds_toArray, List.set_cons_zero, List.set_cons_succ]
                refine wpAnyH_take (i := 10) (oi := { dst := some 26, op := Op.fieldAddr 26 (Operand.tmp 3) 0, type := 0, pos := _, after := #[{ on := 0, ground := Ground.phase }, { on := 1, ground := Ground.phase }, { on := 2, ground := Ground.phase }, { on := 3, ground := Ground.phase }, { on := 4, ground := Ground.phase }, { on := 5, ground := Ground.phase }, { on := 6, ground := Ground.phase }, { on := 7, ground := Ground.phase }, { on := 8, ground := Ground.phase }, { on := 9, ground := Ground.phase }], guard := none }) (v := .pointer (some ⟨M, 0, none⟩)) rfl (by kernel_rfl) (by kernel_rfl) (by kernel_rfl) (fun _ _ _ h => h) (Or.inl ⟨by rfl, fun w' hS => by (try dsimp only at hS); go_simp⟩) hSm ?_
                simp only [Act.put, List.setIfInBounds_toArray, List.set_cons_zero, List.set_cons_succ]
                have QQ := build_q1 B h3 hm
                obtain ⟨qq0, qq1⟩ := QQ
                refine wpAnyH_ready (rs := [11]) (by kernel_rfl) (by simp) ?_
                refine AllReadyH.cons (o := { dst := none, op := Op.store 23 (Operand.tmp 26) (Operand.tmp 25), type := 0, pos := _, after := #[{ on := 10, ground := Ground.data }, { on := 9, ground := Ground.data }, { on := 9, ground := Ground.chain }, { on := 0, ground := Ground.phase }, { on := 1, ground := Ground.phase }, { on := 2, ground := Ground.phase }, { on := 3, ground := Ground.phase }, { on := 4, ground := Ground.phase }, { on := 5, ground := Ground.phase }, { on := 6, ground := Ground.phase }, { on := 7, ground := Ground.phase }, { on := 8, ground := Ground.phase }, { on := 9, ground := Ground.phase }], guard := none }) rfl (fun K hK => ?_) AllReadyH.nil
                go_simp
                refine hK.out _ _ (hSm.trans (Mod.setCell (X := fun x => v1.ownBlock = some x ∨ x = M) _ (p := ⟨M, 0, none⟩) (Or.inr rfl) _)) (fun hSe => ?_)
                clear hK K qq0 qq1 hSe hSm hSN
                refine wpAnyH_done (by kernel_rfl) ?_ _
                refine NoPanic.normal ?_
                have BN := build_first B h3 hlo hhi hN hm hg hgl
                clear hN hm hg hgl hnew hrow RA RB
                go_wp2
                go_meet
                exact ⟨_, _, _, _, BN⟩
            · -- operation 8
              go_simp
              have hnew : (w2.alloc (.cells #[.slice (some ⟨b, 0, none⟩) 4 cc] 126)).cell? ⟨w2.heap.size, 0, none⟩ = some (.slice (some ⟨b, 0, none⟩) 4 cc) := by go_cell
              have hbw : Blw w2 (w2.alloc (.cells #[.slice (some ⟨b, 0, none⟩) 4 cc] 126)) := (Blw.refl _).alloc _
              refine hK.out _ _ ((h2.trans hbw).mod _) (fun hS3 => ?_)
              clear hK K
              try simp only [Act.put, List.setIfInBounds_toArray, List.set_cons_zero, List.set_cons_succ]
              revert hnew hbw hS3
              generalize w2.alloc (.cells #[.slice (some ⟨b, 0, none⟩) 4 cc] 126) = w3
              intro hnew hbw hS3
              generalize w2.heap.size = nb at hnew ⊢
              replace hrow := hrow.blw hbw
              replace hhi := Nat.lt_of_lt_of_le hhi hbw.size
              have h3 := h2.trans hbw
              clear hbw
              refine wpAnyH_ready (rs := [1]) (by kernel_rfl) (by simp) ?_
              refine AllReadyH.cons (o := { dst := some 17, op := Op.load 23 (Operand.tmp 16), type := 23, pos := _, after := #[{ on := 0, ground := Ground.data }], guard := none }) rfl (fun K hK => ?_) AllReadyH.nil
              · -- operation 1
                have mc := h3.cell p0
                go_simp
                refine hK.out _ _ hS3 (fun hS4 => ?_)
                clear hK K mc
                try simp only [Act.put, List.setIfInBounds_toArray, List.set_cons_zero, List.set_cons_succ]
                clear hS4
                refine wpAnyH_ready (rs := [9]) (by kernel_rfl) (by simp) ?_
                refine AllReadyH.cons (o := { dst := some 25, op := Op.call { callee := Callee.builtin Builtin.append, args := #[Operand.tmp 17, Operand.tmp 24], argTypes := #[23, 23] }, type := 23, pos := _, after := #[{ on := 1, ground := Ground.data }, { on := 8, ground := Ground.data }, { on := 7, ground := Ground.chain }], guard := none }) rfl (fun K hK => ?_) AllReadyH.nil
                refine step_append_line rfl (.tmp 17) (.tmp 24) rfl B.b1 rfl ⟨nb, 0, none⟩ b cc rfl (by omega) (by omega) hbx h3 hnew hrow ?_
                intro g cap wN hN hm hg hgl
                have hSN : Mod (fun x => v1.ownBlock = some x ∨ x = M) wr wN := Mod.trans (h3.mod _) (hm.mono (fun x hx => Or.inl hx))
                refine hK.out _ _ hSN (fun hSm => ?_)
                clear hK K
                try simp only [Act.put, List.setIfInBounds_toArray, List.set_cons_zero, List.set_cons_succ]
                refine wpAnyH_take (i := 10) (oi := { dst := some 26, op := Op.fieldAddr 26 (Operand.tmp 3) 0, type := 0, pos := _, after := #[{ on := 0, ground := Ground.phase }, { on := 1, ground := Ground.phase }, { on := 2, ground := Ground.phase }, { on := 3, ground := Ground.phase }, { on := 4, ground := Ground.phase }, { on := 5, ground := Ground.phase }, { on := 6, ground := Ground.phase }, { on := 7, ground := Ground.phase }, { on := 8, ground := Ground.phase }, { on := 9, ground := Ground.phase }], guard := none }) (v := .pointer (some ⟨M, 0, none⟩)) rfl (by kernel_rfl) (by kernel_rfl) (by kernel_rfl) (fun _ _ _ h => h) (Or.inl ⟨by rfl, fun w' hS => by (try dsimp only at hS); go_simp⟩) hSm ?_
                simp only [Act.put, List.setIfInBounds_toArray, List.set_cons_zero, List.set_cons_succ]
                have QQ := build_q1 B h3 hm
                obtain ⟨qq0, qq1⟩ := QQ
                refine wpAnyH_ready (rs := [11]) (by kernel_rfl) (by simp) ?_
                refine AllReadyH.cons (o := { dst := none, op := Op.store 23 (Operand.tmp 26) (Operand.tmp 25), type := 0, pos := _, after := #[{ on := 10, ground := Ground.data }, { on := 9, ground := Ground.data }, { on := 9, ground := Ground.chain }, { on := 0, ground := Ground.phase }, { on := 1, ground := Ground.phase }, { on := 2, ground := Ground.phase }, { on := 3, ground := Ground.phase }, { on := 4, ground := Ground.phase }, { on := 5, ground := Ground.phase }, { on := 6, ground := Ground.phase }, { on := 7, ground := Ground.phase }, { on := 8, ground := Ground.phase }, { on := 9, ground := Ground.phase }], guard := none }) rfl (fun K hK => ?_) AllReadyH.nil
                go_simp
                refine hK.out _ _ (hSm.trans (Mod.setCell (X := fun x => v1.ownBlock = some x ∨ x = M) _ (p := ⟨M, 0, none⟩) (Or.inr rfl) _)) (fun hSe => ?_)
                clear hK K qq0 qq1 hSe hSm hSN
                refine wpAnyH_done (by kernel_rfl) ?_ _
                refine NoPanic.normal ?_
                have BN := build_first B h3 hlo hhi hN hm hg hgl
                clear hN hm hg hgl hnew hrow RA RB
                go_wp2
                go_meet
                exact ⟨_, _, _, _, BN⟩
      case rest =>
        obtain ⟨v1', X1', F1', c1', B'⟩ := hcut
        clear B p0 RA RB RC b' o' ce
        have B := B'
        clear B'
        have p1 := B.cell1
        obtain ⟨b', o', ce, q0, q1⟩ := HC.out k hlt
        have RA : ∀ w', Mod (fun x => v2.ownBlock = some x ∨ x = M) wc w' → w'.cell? ⟨w.heap.size, 1, none⟩ = some (.slice (some ⟨b2, o2, none⟩) 12 cc2) := fun w' hS => own_keep2 B hS (get3 MK.box).2.1
        have RB : ∀ w', Mod (fun x => v2.ownBlock = some x ∨ x = M) wc w' → w'.cell? ⟨b2, o2 + k, none⟩ = some (.slice (some ⟨b', o', none⟩) 4 ce) := fun w' hS => own_keep2 B hS (MK.blw.cell q0)
        have RC : Hid (∀ w', Mod (fun x => v2.ownBlock = some x ∨ x = M) wc w' → ∀ i, i < 4 → w'.cell? ⟨b', o' + i, none⟩ = some (.int .i64 (cv k i))) := fun w' hS i hi => own_keep2 B hS (MK.blw.cell (q1 i hi))
        clear q0 q1
        go_wp2
        refine wp_region_noPanic ?_
        refine wp_region_held_drew (S := fun w' => Mod (fun x => v2.ownBlock = some x ∨ x = M) wc w') (by kernel_rfl) ((Blw.refl wc).drew.mod _) (fun hS1 => ?_)
        have h1 : Blw wc wc.drew := (Blw.refl wc).drew
        revert hS1 h1
        generalize wc.drew = w1
        intro hS1 h1
        refine wpAnyH_take (i := 0) (oi := { dst := some 27, op := Op.fieldAddr 26 (Operand.tmp 3) 1, type := 0, pos := _, after := #[], guard := none }) (v := .pointer (some ⟨M, 1, none⟩)) rfl (by kernel_rfl) (by kernel_rfl) (by kernel_rfl) (fun _ _ _ h => h) (Or.inl ⟨by rfl, fun w' hS => by (try dsimp only at hS); go_simp⟩) hS1 ?_
        simp only [Act.put, List.setIfInBounds_toArray, List.set_cons_zero, List.set_cons_succ]
        refine wpAnyH_take (i := 2) (oi := { dst := some 29, op := Op.fieldAddr 26 (Operand.tmp 1) 1, type := 0, pos := _, after := #[], guard := none }) (v := .pointer (some ⟨w.heap.size, 1, none⟩)) rfl (by kernel_rfl) (by kernel_rfl) (by kernel_rfl) (fun _ _ _ h => h) (Or.inl ⟨by rfl, fun w' hS => by (try dsimp only at hS); go_simp⟩) hS1 ?_
        simp only [Act.put, List.setIfInBounds_toArray, List.set_cons_zero, List.set_cons_succ]
        refine wpAnyH_take (i := 3) (oi := { dst := some 30, op := Op.load 23 (Operand.tmp 29), type := 23, pos := _, after := #[{ on := 2, ground := Ground.data }], guard := none }) (v := .slice (some ⟨b2, o2, none⟩) 12 cc2) rfl (by kernel_rfl) (by kernel_rfl) (by kernel_rfl) (fun _ _ _ h => h) (Or.inl ⟨by rfl, fun w' hS => by (try dsimp only at hS); go_simp⟩) hS1 ?_
        simp only [Act.put, List.setIfInBounds_toArray, List.set_cons_zero, List.set_cons_succ]
        refine wpAnyH_take (i := 4) (oi := { dst := some 31, op := Op.move (Operand.tmp 4), type := 3, pos := _, after := #[], guard := none }) (v := .int .i64 k) rfl (by kernel_rfl) (by kernel_rfl) (by kernel_rfl) (fun _ _ _ h => h) (Or.inl ⟨by rfl, fun w' hS => by (try dsimp only at hS); go_simp⟩) hS1 ?_
        simp only [Act.put, List.setIfInBounds_toArray, List.set_cons_zero, List.set_cons_succ]
        refine wpAnyH_take (i := 5) (oi := { dst := some 32, op := Op.indexAddr 23 (Operand.tmp 30) (Operand.tmp 31), type := 0, pos := _, after := #[{ on := 3, ground := Ground.data }, { on := 4, ground := Ground.data }], guard := none }) (v := .pointer (some ⟨b2, o2 + k, none⟩)) rfl (by kernel_rfl) (by kernel_rfl) (by kernel_rfl) (fun _ _ _ h => h) (Or.inl ⟨by rfl, fun w' hS => by (try dsimp only at hS); go_simp⟩) hS1 ?_
        simp only [Act.put, List.setIfInBounds_toArray, List.set_cons_zero, List.set_cons_succ]
        refine wpAnyH_take (i := 6) (oi := { dst := some 33, op := Op.load 126 (Operand.tmp 32), type := 126, pos := _, after := #[{ on := 5, ground := Ground.data }], guard := none }) (v := .agg #[.slice (some ⟨b', o', none⟩) 4 ce]) rfl (by kernel_rfl) (by kernel_rfl) (by kernel_rfl) (fun _ _ _ h => h) (Or.inl ⟨by rfl, fun w' hS => by (try dsimp only at hS); go_simp⟩) hS1 ?_
        simp only [Act.put, List.setIfInBounds_toArray, List.set_cons_zero, List.set_cons_succ]
        refine wpAnyH_ready (rs := [1, 7]) (by kernel_rfl) (by simp) ?_
        refine AllReadyH.cons (o := { dst := some 28, op := Op.load 23 (Operand.tmp 27), type := 23, pos := _, after := #[{ on := 0, ground := Ground.data }], guard := none }) rfl (fun K hK => ?_) (AllReadyH.cons (o := { dst := some 34, op := Op.call { callee := Callee.value (Operand.func 100), args := #[Operand.tmp 33], argTypes := #[126] }, type := 126, pos := _, after := #[{ on := 6, ground := Ground.data }], guard := none }) rfl (fun K hK => ?_) AllReadyH.nil)
        · -- operation 1
          have mc := h1.cell p1
          go_simp
          refine hK.out _ _ hS1 (fun hS2 => ?_)
          clear hK K mc
          try simp only [Act.put, List.setIfInBounds_toArray, List.set_cons_zero, List.set_cons_succ]
          clear hS2
          refine wpAnyH_ready (rs := [7]) (by kernel_rfl) (by simp) ?_
          refine AllReadyH.cons (o := { dst := some 34, op := Op.call { callee := Callee.value (Operand.func 100), args := #[Operand.tmp 33], argTypes := #[126] }, type := 126, pos := _, after := #[{ on := 6, ground := Ground.data }], guard := none }) rfl (fun K hK => ?_) AllReadyH.nil
          · -- operation 7
            go_simp
            refine (l1Copy_any _ _ _ 4 (cv k) _ (by omega) (by omega) (RC.out _ hS1)).mono ?_
            rintro e w2 ⟨b, cc, rfl, hlo0, hhi, hrow, hb2⟩
            have h2 := h1.trans hb2
            have hlo : wc.heap.size ≤ b := by have := h1.size; omega
            refine hK.out _ _ (h2.mod _) (fun hS2 => ?_)
            clear hK K hlo0 hb2
            try simp only [Act.put, List.setIfInBounds_toArray, List.set_cons_zero, List.set_cons_succ]
            have hbx : ¬ X2 b := fun hx => by have := (B.x2 b hx).2.1; omega
            refine wpAnyH_ready (rs := [8]) (by kernel_rfl) (by simp) ?_
            refine AllReadyH.cons (o := { dst := some 35, op := Op.buildSlice 23 1 #[(0, Operand.tmp 34)], type := 23, pos := _, after := #[{ on := 7, ground := Ground.data }], guard := none }) rfl (fun K hK => ?_) AllReadyH.nil
            · -- operation 8
              go_simp
              have hnew : (w2.alloc (.cells #[.slice (some ⟨b, 0, none⟩) 4 cc] 126)).cell? ⟨w2.heap.size, 0, none⟩ = some (.slice (some ⟨b, 0, none⟩) 4 cc) := by go_cell
              have hbw : Blw w2 (w2.alloc (.cells #[.slice (some ⟨b, 0, none⟩) 4 cc] 126)) := (Blw.refl _).alloc _
              refine hK.out _ _ ((h2.trans hbw).mod _) (fun hS3 => ?_)
              clear hK K
              try simp only [Act.put, List.setIfInBounds_toArray, List.set_cons_zero, List.set_cons_succ]
              revert hnew hbw hS3
              generalize w2.alloc (.cells #[.slice (some ⟨b, 0, none⟩) 4 cc] 126) = w3
              intro hnew hbw hS3
              generalize w2.heap.size = nb at hnew ⊢
              replace hrow := hrow.blw hbw
              replace hhi := Nat.lt_of_lt_of_le hhi hbw.size
              have h3 := h2.trans hbw
              clear hbw
              refine wpAnyH_ready (rs := [9]) (by kernel_rfl) (by simp) ?_
              refine AllReadyH.cons (o := { dst := some 36, op := Op.call { callee := Callee.builtin Builtin.append, args := #[Operand.tmp 28, Operand.tmp 35], argTypes := #[23, 23] }, type := 23, pos := _, after := #[{ on := 1, ground := Ground.data }, { on := 8, ground := Ground.data }, { on := 7, ground := Ground.chain }], guard := none }) rfl (fun K hK => ?_) AllReadyH.nil
              refine step_append_line rfl (.tmp 28) (.tmp 35) rfl B.b2 rfl ⟨nb, 0, none⟩ b cc rfl (by omega) (by omega) hbx h3 hnew hrow ?_
              intro g cap wN hN hm hg hgl
              have hSN : Mod (fun x => v2.ownBlock = some x ∨ x = M) wc wN := Mod.trans (h3.mod _) (hm.mono (fun x hx => Or.inl hx))
              refine hK.out _ _ hSN (fun hSm => ?_)
              clear hK K
              try simp only [Act.put, List.setIfInBounds_toArray, List.set_cons_zero, List.set_cons_succ]
              refine wpAnyH_take (i := 10) (oi := { dst := some 37, op := Op.fieldAddr 26 (Operand.tmp 3) 1, type := 0, pos := _, after := #[{ on := 0, ground := Ground.phase }, { on := 1, ground := Ground.phase }, { on := 2, ground := Ground.phase }, { on := 3, ground := Ground.phase }, { on := 4, ground := Ground.phase }, { on := 5, ground := Ground.phase }, { on := 6, ground := Ground.phase }, { on := 7, ground := Ground.phase }, { on := 8, ground := Ground.phase }, { on := 9, ground := Ground.phase }], guard := none }) (v := .pointer (some ⟨M, 1, none⟩)) rfl (by kernel_rfl) (by kernel_rfl) (by kernel_rfl) (fun _ _ _ h => h) (Or.inl ⟨by rfl, fun w' hS => by (try dsimp only at hS); go_simp⟩) hSm ?_
              simp only [Act.put, List.setIfInBounds_toArray, List.set_cons_zero, List.set_cons_succ]
              have QQ := build_q2 B h3 hm
              obtain ⟨qq0, qq1⟩ := QQ
              refine wpAnyH_ready (rs := [11]) (by kernel_rfl) (by simp) ?_
              refine AllReadyH.cons (o := { dst := none, op := Op.store 23 (Operand.tmp 37) (Operand.tmp 36), type := 0, pos := _, after := #[{ on := 10, ground := Ground.data }, { on := 9, ground := Ground.data }, { on := 9, ground := Ground.chain }, { on := 0, ground := Ground.phase }, { on := 1, ground := Ground.phase }, { on := 2, ground := Ground.phase }, { on := 3, ground := Ground.phase }, { on := 4, ground := Ground.phase }, { on := 5, ground := Ground.phase }, { on := 6, ground := Ground.phase }, { on := 7, ground := Ground.phase }, { on := 8, ground := Ground.phase }, { on := 9, ground := Ground.phase }], guard := none }) rfl (fun K hK => ?_) AllReadyH.nil
              go_simp
              refine hK.out _ _ (hSm.trans (Mod.setCell (X := fun x => v2.ownBlock = some x ∨ x = M) _ (p := ⟨M, 1, none⟩) (Or.inr rfl) _)) (fun hSe => ?_)
              clear hK K qq0 qq1 hSe hSm hSN
              refine wpAnyH_done (by kernel_rfl) ?_ _
              refine NoPanic.normal ?_
              have BN := build_second B h3 hlo hhi hN hm hg hgl
              clear hN hm hg hgl hnew hrow RA RB
              go_wp2
              go_roundw
              case rel => exact ⟨k + 1, _, _, _, _, _, _, _, _, by omega, by go_num, BN⟩
              case measure => simp [intOf]; omega
        · -- operation 7
          go_simp
          refine (l1Copy_any _ _ _ 4 (cv k) _ (by omega) (by omega) (RC.out _ hS1)).mono ?_
          rintro e w2 ⟨b, cc, rfl, hlo0, hhi, hrow, hb2⟩
          have h2 := h1.trans hb2
          have hlo : wc.heap.size ≤ b := by have := h1.size; omega
          refine hK.out _ _ (h2.mod _) (fun hS2 => ?_)
          clear hK K hlo0 hb2
          try simp only [Act.put, List.setIfInBounds_toArray, List.set_cons_zero, List.set_cons_succ]
          have hbx : ¬ X2 b := fun hx => by have := (B.x2 b hx).2.1; omega
          refine wpAnyH_ready (rs := [1, 8]) (by kernel_rfl) (by simp) ?_
          refine AllReadyH.cons (o := { dst := some 28, op := Op.load 23 (Operand.tmp 27), type := 23, pos := _, after := #[{ on := 0, ground := Ground.data }], guard := none }) rfl (fun K hK => ?_) (AllReadyH.cons (o := { dst := some 35, op := Op.buildSlice 23 1 #[(0, Operand.tmp 34)], type := 23, pos := _, after := #[{ on := 7, ground := Ground.data }], guard := none }) rfl (fun K hK => ?_) AllReadyH.nil)
          · -- operation 1
            have mc := h2.cell p1
            go_simp
            refine hK.out _ _ hS2 (fun hS3 => ?_)
            clear hK K mc
            try simp only [Act.put, List.setIfInBounds_toArray, List.set_cons_zero, List.set_cons_succ]
            clear hS3
            refine wpAnyH_ready (rs := [8]) (by kernel_rfl) (by simp) ?_
            refine AllReadyH.cons (o := { dst := some 35, op := Op.buildSlice 23 1 #[(0, Operand.tmp 34)], type := 23, pos := _, after := #[{ on := 7, ground := Ground.data }], guard := none }) rfl (fun K hK => ?_) AllReadyH.nil
            · -- operation 8
              go_simp
              have hnew : (w2.alloc (.cells #[.slice (some ⟨b, 0, none⟩) 4 cc] 126)).cell? ⟨w2.heap.size, 0, none⟩ = some (.slice (some ⟨b, 0, none⟩) 4 cc) := by go_cell
              have hbw : Blw w2 (w2.alloc (.cells #[.slice (some ⟨b, 0, none⟩) 4 cc] 126)) := (Blw.refl _).alloc _
              refine hK.out _ _ ((h2.trans hbw).mod _) (fun hS3 => ?_)
              clear hK K
              try simp only [Act.put, List.setIfInBounds_toArray, List.set_cons_zero, List.set_cons_succ]
              revert hnew hbw hS3
              generalize w2.alloc (.cells #[.slice (some ⟨b, 0, none⟩) 4 cc] 126) = w3
              intro hnew hbw hS3
              generalize w2.heap.size = nb at hnew ⊢
              replace hrow := hrow.blw hbw
              replace hhi := Nat.lt_of_lt_of_le hhi hbw.size
              have h3 := h2.trans hbw
              clear hbw
              refine wpAnyH_ready (rs := [9]) (by kernel_rfl) (by simp) ?_
              refine AllReadyH.cons (o := { dst := some 36, op := Op.call { callee := Callee.builtin Builtin.append, args := #[Operand.tmp 28, Operand.tmp 35], argTypes := #[23, 23] }, type := 23, pos := _, after := #[{ on := 1, ground := Ground.data }, { on := 8, ground := Ground.data }, { on := 7, ground := Ground.chain }], guard := none }) rfl (fun K hK => ?_) AllReadyH.nil
              refine step_append_line rfl (.tmp 28) (.tmp 35) rfl B.b2 rfl ⟨nb, 0, none⟩ b cc rfl (by omega) (by omega) hbx h3 hnew hrow ?_
              intro g cap wN hN hm hg hgl
              have hSN : Mod (fun x => v2.ownBlock = some x ∨ x = M) wc wN := Mod.trans (h3.mod _) (hm.mono (fun x hx => Or.inl hx))
              refine hK.out _ _ hSN (fun hSm => ?_)
              clear hK K
              try simp only [Act.put, List.setIfInBounds_toArray, List.set_cons_zero, List.set_cons_succ]
              refine wpAnyH_take (i := 10) (oi := { dst := some 37, op := Op.fieldAddr 26 (Operand.tmp 3) 1, type := 0, pos := _, after := #[{ on := 0, ground := Ground.phase }, { on := 1, ground := Ground.phase }, { on := 2, ground := Ground.phase }, { on := 3, ground := Ground.phase }, { on := 4, ground := Ground.phase }, { on := 5, ground := Ground.phase }, { on := 6, ground := Ground.phase }, { on := 7, ground := Ground.phase }, { on := 8, ground := Ground.phase }, { on := 9, ground := Ground.phase }], guard := none }) (v := .pointer (some ⟨M, 1, none⟩)) rfl (by kernel_rfl) (by kernel_rfl) (by kernel_rfl) (fun _ _ _ h => h) (Or.inl ⟨by rfl, fun w' hS => by (try dsimp only at hS); go_simp⟩) hSm ?_
              simp only [Act.put, List.setIfInBounds_toArray, List.set_cons_zero, List.set_cons_succ]
              have QQ := build_q2 B h3 hm
              obtain ⟨qq0, qq1⟩ := QQ
              refine wpAnyH_ready (rs := [11]) (by kernel_rfl) (by simp) ?_
              refine AllReadyH.cons (o := { dst := none, op := Op.store 23 (Operand.tmp 37) (Operand.tmp 36), type := 0, pos := _, after := #[{ on := 10, ground := Ground.data }, { on := 9, ground := Ground.data }, { on := 9, ground := Ground.chain }, { on := 0, ground := Ground.phase }, { on := 1, ground := Ground.phase }, { on := 2, ground := Ground.phase }, { on := 3, ground := Ground.phase }, { on := 4, ground := Ground.phase }, { on := 5, ground := Ground.phase }, { on := 6, ground := Ground.phase }, { on := 7, ground := Ground.phase }, { on := 8, ground := Ground.phase }, { on := 9, ground := Ground.phase }], guard := none }) rfl (fun K hK => ?_) AllReadyH.nil
              go_simp
              refine hK.out _ _ (hSm.trans (Mod.setCell (X := fun x => v2.ownBlock = some x ∨ x = M) _ (p := ⟨M, 1, none⟩) (Or.inr rfl) _)) (fun hSe => ?_)
              clear hK K qq0 qq1 hSe hSm hSN
              refine wpAnyH_done (by kernel_rfl) ?_ _
              refine NoPanic.normal ?_
              have BN := build_second B h3 hlo hhi hN hm hg hgl
              clear hN hm hg hgl hnew hrow RA RB
              go_wp2
              go_roundw
              case rel => exact ⟨k + 1, _, _, _, _, _, _, _, _, by omega, by go_num, BN⟩
              case measure => simp [intOf]; omega
          · -- operation 8
            go_simp
            have hnew : (w2.alloc (.cells #[.slice (some ⟨b, 0, none⟩) 4 cc] 126)).cell? ⟨w2.heap.size, 0, none⟩ = some (.slice (some ⟨b, 0, none⟩) 4 cc) := by go_cell
            have hbw : Blw w2 (w2.alloc (.cells #[.slice (some ⟨b, 0, none⟩) 4 cc] 126)) := (Blw.refl _).alloc _
            refine hK.out _ _ ((h2.trans hbw).mod _) (fun hS3 => ?_)
            clear hK K
            try simp only [Act.put, List.setIfInBounds_toArray, List.set_cons_zero, List.set_cons_succ]
            revert hnew hbw hS3
            generalize w2.alloc (.cells #[.slice (some ⟨b, 0, none⟩) 4 cc] 126) = w3
            intro hnew hbw hS3
            generalize w2.heap.size = nb at hnew ⊢
            replace hrow := hrow.blw hbw
            replace hhi := Nat.lt_of_lt_of_le hhi hbw.size
            have h3 := h2.trans hbw
            clear hbw
            refine wpAnyH_ready (rs := [1]) (by kernel_rfl) (by simp) ?_
            refine AllReadyH.cons (o := { dst := some 28, op := Op.load 23 (Operand.tmp 27), type := 23, pos := _, after := #[{ on := 0, ground := Ground.data }], guard := none }) rfl (fun K hK => ?_) AllReadyH.nil
            · -- operation 1
              have mc := h3.cell p1
              go_simp
              refine hK.out _ _ hS3 (fun hS4 => ?_)
              clear hK K mc
              try simp only [Act.put, List.setIfInBounds_toArray, List.set_cons_zero, List.set_cons_succ]
              clear hS4
              refine wpAnyH_ready (rs := [9]) (by kernel_rfl) (by simp) ?_
              refine AllReadyH.cons (o := { dst := some 36, op := Op.call { callee := Callee.builtin Builtin.append, args := #[Operand.tmp 28, Operand.tmp 35], argTypes := #[23, 23] }, type := 23, pos := _, after := #[{ on := 1, ground := Ground.data }, { on := 8, ground := Ground.data }, { on := 7, ground := Ground.chain }], guard := none }) rfl (fun K hK => ?_) AllReadyH.nil
              refine step_append_line rfl (.tmp 28) (.tmp 35) rfl B.b2 rfl ⟨nb, 0, none⟩ b cc rfl (by omega) (by omega) hbx h3 hnew hrow ?_
              intro g cap wN hN hm hg hgl
              have hSN : Mod (fun x => v2.ownBlock = some x ∨ x = M) wc wN := Mod.trans (h3.mod _) (hm.mono (fun x hx => Or.inl hx))
              refine hK.out _ _ hSN (fun hSm => ?_)
              clear hK K
              try simp only [Act.put, List.setIfInBounds_toArray, List.set_cons_zero, List.set_cons_succ]
              refine wpAnyH_take (i := 10) (oi := { dst := some 37, op := Op.fieldAddr 26 (Operand.tmp 3) 1, type := 0, pos := _, after := #[{ on := 0, ground := Ground.phase }, { on := 1, ground := Ground.phase }, { on := 2, ground := Ground.phase }, { on := 3, ground := Ground.phase }, { on := 4, ground := Ground.phase }, { on := 5, ground := Ground.phase }, { on := 6, ground := Ground.phase }, { on := 7, ground := Ground.phase }, { on := 8, ground := Ground.phase }, { on := 9, ground := Ground.phase }], guard := none }) (v := .pointer (some ⟨M, 1, none⟩)) rfl (by kernel_rfl) (by kernel_rfl) (by kernel_rfl) (fun _ _ _ h => h) (Or.inl ⟨by rfl, fun w' hS => by (try dsimp only at hS); go_simp⟩) hSm ?_
              simp only [Act.put, List.setIfInBounds_toArray, List.set_cons_zero, List.set_cons_succ]
              have QQ := build_q2 B h3 hm
              obtain ⟨qq0, qq1⟩ := QQ
              refine wpAnyH_ready (rs := [11]) (by kernel_rfl) (by simp) ?_
              refine AllReadyH.cons (o := { dst := none, op := Op.store 23 (Operand.tmp 37) (Operand.tmp 36), type := 0, pos := _, after := #[{ on := 10, ground := Ground.data }, { on := 9, ground := Ground.data }, { on := 9, ground := Ground.chain }, { on := 0, ground := Ground.phase }, { on := 1, ground := Ground.phase }, { on := 2, ground := Ground.phase }, { on := 3, ground := Ground.phase }, { on := 4, ground := Ground.phase }, { on := 5, ground := Ground.phase }, { on := 6, ground := Ground.phase }, { on := 7, ground := Ground.phase }, { on := 8, ground := Ground.phase }, { on := 9, ground := Ground.phase }], guard := none }) rfl (fun K hK => ?_) AllReadyH.nil
              go_simp
              refine hK.out _ _ (hSm.trans (Mod.setCell (X := fun x => v2.ownBlock = some x ∨ x = M) _ (p := ⟨M, 1, none⟩) (Or.inr rfl) _)) (fun hSe => ?_)
              clear hK K qq0 qq1 hSe hSm hSN
              refine wpAnyH_done (by kernel_rfl) ?_ _
              refine NoPanic.normal ?_
              have BN := build_second B h3 hlo hhi hN hm hg hgl
              clear hN hm hg hgl hnew hrow RA RB
              go_wp2
              go_roundw
              case rel => exact ⟨k + 1, _, _, _, _, _, _, _, _, by omega, by go_num, BN⟩
              case measure => simp [intOf]; omega
    · obtain rfl : k = 12 := by omega
      have p0 := B.cell0
      have p1 := B.cell1
      have p2 := B.cell2
      have rX' := MK.res.blw B.blw
      have x0 : wr.cell? ⟨w.heap.size + 1, 0, none⟩ = some (.slice none 0 0) := rX'.cell (by omega)
      have x1 : wr.cell? ⟨w.heap.size + 1, 1, none⟩ = some (.slice none 0 0) := rX'.cell (by omega)
      have x2 : wr.cell? ⟨w.heap.size + 1, 2, none⟩ = some (.slice none 0 0) := rX'.cell (by omega)
      have f0 := rX'.frozen 0
      have f1 := rX'.frozen 1
      have f2 := rX'.frozen 2
      obtain ⟨a1, d1, e1⟩ := bld_shape B.b1
      obtain ⟨a2, d2, e2⟩ := bld_shape B.b2
      subst e1 e2
      clear HS HC
      go_wp2
      have hm3 : Mod (fun x => x = w.heap.size + 1) wr (((wr.setCell ⟨w.heap.size + 1, 0, none⟩ (.slice a1 12 d1)).setCell ⟨w.heap.size + 1, 1, none⟩ (.slice a2 12 d2)).setCell ⟨w.heap.size + 1, 2, none⟩ (.slice (some ⟨g, 0, none⟩) 12 cap)) :=
        ((Mod.setCell (X := fun x => x = w.heap.size + 1) wr (p := ⟨w.heap.size + 1, 0, none⟩) rfl _).trans (Mod.setCell (X := fun x => x = w.heap.size + 1) _ (p := ⟨w.heap.size + 1, 1, none⟩) rfl _)).trans (Mod.setCell (X := fun x => x = w.heap.size + 1) _ (p := ⟨w.heap.size + 1, 2, none⟩) rfl _)
      refine bodyPost_ret (v := .agg #[.slice a1 12 d1, .slice a2 12 d2, .slice (some ⟨g, 0, none⟩) 12 cap]) (by simp [results, Try.results97, go_sem, x0, x1, x2]) rfl ⟨⟨a1, a2, some ⟨g, 0, none⟩, d1, d2, cap⟩, rfl, own_end MK B hm3, Mod.blw (MK.blw.trans B.blw) hm3 (fun i hi => by omega)⟩
end Go.Proofs.Ytglllnklcnlcjaa
