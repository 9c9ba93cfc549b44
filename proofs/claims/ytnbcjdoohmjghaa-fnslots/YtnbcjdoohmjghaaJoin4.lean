/- Merged by program, in this order: XGood, Own, OwnM, XLoad, StoreW, XStore, FlushW, FlushI. -/
import Derived.Test.YtnbcjdoohmjghaaJoin3
/- 'impl.GoodMemory', and the law on it. -/
namespace Go.Proofs.Ytnbcjdoohmjghaa
open Go.RowKit
set_option linter.unusedSimpArgs false
set_option maxRecDepth 10000 in
set_option maxHeartbeats 1600000 in
theorem goodI_any (m : MV) (M : MD) (Y : Nat → Prop) (w : World) (h : MemAt Y w m M) :
    Calls Try.prog 18 #[m.val M] w fun e w' => ∃ b, e = .returned (.bool b) ∧ (b = true ↔ M.Good) ∧ Blw w w' := by
  go_enter Try.func18, Try.ntmps18
  go_wp2_with fail
  have hb0 : Blw w (w.alloc (.cells #[.slice m.a1 M.n1 m.c1, .slice m.a2 M.n2 m.c2, .slice m.a3 M.n3 m.c3] 26)) := (Blw.refl _).alloc _
  refine (holdMemory_any m M Y _ (h.blw hb0)).mono ?_
  rintro e w1 ⟨hr, hb1⟩
  replace hb1 := hb0.trans hb1
  have r79 := row79 w1
  rcases hr with ⟨good, cs, z1, z2, rfl⟩ | ⟨bad, rfl⟩
  · have hi : (Try.prog.info? 98).map (·.size) = some cs.size := by rw [z1]; exact info79
    have one := one_cells' z1 z2
    have GD : Hid M.Good := good
    clear good hb0
    go_wp2_with (refine wpList_store_row rfl 98 (.tmp 3) (.tmp 8) rfl w1.heap.size 0 cs rfl rfl 108 _ (hcell M.v1 M.v2 M.d) r79 (by omega) hi one (fun j hj => z2 j (by omega)) ?_; intro wz qz1 qz2 qz3)
    go_ret
    exact ⟨true, rfl, ⟨fun _ => GD.out, fun _ => rfl⟩, Mod.blw (hb1.alloc _) (by assumption) (fun i hi => by have := hb1.size; omega)⟩
  · have GD : Hid (¬ M.Good) := bad
    clear bad hb0
    go_wp2_with (refine wpList_store_row rfl 98 (.tmp 3) (.tmp 8) rfl w1.heap.size 0 Try.zeroCells98 rfl rfl 108 _ (hcell zeros zeros (fun _ => false)) r79 (by rw [size79]; omega) (by rw [size79]; exact info79) one79 cell79 ?_; intro wz qz1 qz2 qz3)
    go_ret
    exact ⟨false, rfl, ⟨fun h => absurd h (by decide), fun g => absurd g GD.out⟩, Mod.blw (hb1.alloc _) (by assumption) (fun i hi => by have := hb1.size; omega)⟩
theorem box3_all {w : World} {B : Nat} {a b c : Value} (r : Row w B 3 (fun i => if i = 0 then a else if i = 1 then b else c)) :
    (∀ w', Blw w w' → w'.cell? ⟨B, 0, none⟩ = some a) ∧ (∀ w', Blw w w' → w'.cell? ⟨B, 1, none⟩ = some b) ∧ (∀ w', Blw w w' → w'.cell? ⟨B, 2, none⟩ = some c) :=
  ⟨fun _ h => (get3 (r.blw h)).1, fun _ h => (get3 (r.blw h)).2.1, fun _ h => (get3 (r.blw h)).2.2⟩
end Go.Proofs.Ytnbcjdoohmjghaa
/- 'spec.l1Copy' and 'spec.l1Own': new memory that reads as the old one. -/
namespace Go.Proofs.Ytnbcjdoohmjghaa
open Go.RowKit
set_option linter.unusedSimpArgs false
theorem owned_row {w : World} {g n cap : Nat} {e : TypeId} {xs : List Value} {f : Nat → Value} (h : w.ownsRow 0 e 1 (.slice (some ⟨g, 0, none⟩) n cap) n xs) (hf : ∀ i, i < n → xs[i]? = some (f i)) (hn : 0 < n) : Row w g n f := by
  obtain ⟨h1, h2⟩ := h
  rcases h2 with ⟨_, h2⟩ | ⟨g', cap', cur, hv, hg, hh, hcap, _, hsz, ht⟩
  · omega
  · simp only [Value.slice.injEq, Option.some.injEq, Addr.mk.injEq, and_true, true_and] at hv
    obtain ⟨rfl, rfl⟩ := hv
    refine ⟨cur, e, hh, by omega, fun i hi => ?_⟩
    have : (cur.toList.take (n * 1))[i]? = cur[i]? := by rw [List.getElem?_take, if_pos (by omega)]; simp
    rw [← this, ht]
    exact hf i hi
theorem own_empty {w : World} {B : Nat} {e : TypeId} (h : w.heap[B]? = some (.cells #[] e (0, 0))) : w.ownsRow 0 e 1 (.slice (some ⟨B, 0, none⟩) 0 0) 0 [] :=
  ⟨rfl, Or.inr ⟨B, 0, #[], rfl, Nat.zero_le _, h, Nat.le_refl _, by unfold maxLen; omega, rfl, rfl⟩⟩
theorem copied_facts {w W w' : World} {g n cap : Nat} {xs : List Value} {f : Nat → Int} (own' : w'.ownsRow 0 3 1 (.slice (some ⟨g, 0, none⟩) n cap) n xs) (gr : W.grownBy w' (Value.ownBlock (.slice (some ⟨w.heap.size + 1 + 1, 0, none⟩) 0 0))) (hb : Blw w W)
    (hz : W.heap.size = w.heap.size + 1 + 1 + 1) (hx : ∀ i, i < n → xs[i]? = some (.int .i64 (f i))) (hn : 0 < n) (rW : Row W (w.heap.size + 1) 1 (fun _ => .slice none 0 0)) : (w'.cell? ⟨w.heap.size + 1, 0, none⟩ = some (.slice none 0 0) ∧ w'.frozen? ⟨w.heap.size + 1, 0, none⟩ = false) ∧ Row w' g n (fun t => .int .i64 (f t)) ∧ Mod (fun x => x = w.heap.size + 1 + 1) W w' ∧ Blw w w' ∧ w.heap.size + 1 + 1 < w'.heap.size := by
  have hm : Mod (fun x => x = w.heap.size + 1 + 1) W w' := ⟨gr.os, gr.tape, gr.output, gr.size, fun k hk hx => gr.block k hk (fun e => hx (by simpa [Value.ownBlock] using e))⟩
  have r := rW.mod hm (by omega)
  exact ⟨⟨r.cell (by omega), r.frozen 0⟩, owned_row own' hx hn, hm, Mod.blw hb hm (fun i hi => by omega), by have := gr.size; omega⟩
set_option maxRecDepth 10000 in
set_option maxHeartbeats 800000 in
theorem l1Copy_any (b0 o0 c n : Nat) (f : Nat → Int) (w : World) (hn : 0 < n) (hn2 : n ≤ 1048576) (h : ∀ i, i < n → w.cell? ⟨b0, o0 + i, none⟩ = some (.int .i64 (f i))) :
    Calls Try.prog 127 #[.agg #[.slice (some ⟨b0, o0, none⟩) n c]] w fun e w' => ∃ b cc, e = .returned (.agg #[.slice (some ⟨b, 0, none⟩) n cc]) ∧ w.heap.size ≤ b ∧ b < w'.heap.size ∧ Row w' b n (fun t => .int .i64 (f t)) ∧ Blw w w' := by
  obtain ⟨i0, hi, hz0, hz1, hz2⟩ := info_parts tinfo3
  go_enter Try.func127, Try.ntmps127
  have hbW : Blw w (((w.alloc (.cells #[.slice (some ⟨b0, o0, none⟩) n c] 37)).alloc (.cells #[.slice none 0 0] 37)).alloc (.cells #[] 3)) := (((Blw.refl _).alloc _).alloc _).alloc _
  have oW : Hid ((((w.alloc (.cells #[.slice (some ⟨b0, o0, none⟩) n c] 37)).alloc (.cells #[.slice none 0 0] 37)).alloc (.cells #[] 3)).ownsRow 0 3 1 (.slice (some ⟨w.heap.size + 1 + 1, 0, none⟩) 0 0) 0 []) := by
    refine own_empty ?_
    have := heap_alloc_new ((w.alloc (.cells #[.slice (some ⟨b0, o0, none⟩) n c] 37)).alloc (.cells #[.slice none 0 0] 37)) (.cells #[] 3)
    rw [World.size_alloc, World.size_alloc] at this
    exact this
  have rW : Hid (Row (((w.alloc (.cells #[.slice (some ⟨b0, o0, none⟩) n c] 37)).alloc (.cells #[.slice none 0 0] 37)).alloc (.cells #[] 3)) (w.heap.size + 1) 1 (fun _ => .slice none 0 0)) := by
    have one : ∀ (w : World) (a : Value) (t : TypeId), Row (w.alloc (.cells #[a] t)) w.heap.size 1 (fun _ => a) := fun w a t =>
      ⟨_, t, heap_alloc_new _ _, by simp, fun i hi => by obtain rfl : i = 0 := by omega
                                                         rfl⟩
    have := (one (w.alloc (.cells #[.slice (some ⟨b0, o0, none⟩) n c] 37)) (.slice none 0 0) 37).blw ((Blw.refl _).alloc (.cells #[] 3))
    rw [World.size_alloc] at this
    exact this
  have hsrc : Hid (∀ j u, ((List.range n).map fun i => Value.int .i64 (f i))[j]? = some u → (((w.alloc (.cells #[.slice (some ⟨b0, o0, none⟩) n c] 37)).alloc (.cells #[.slice none 0 0] 37)).alloc (.cells #[] 3)).cell? ((⟨b0, o0, none⟩ : Addr).add j) = some u) := fun j u hj => by
    have hlt : j < n := by
      have := (List.getElem?_eq_some_iff.1 hj).1
      simpa using this
    rw [Addr.add_mid, hbW.cell (h j hlt)]
    simpa [hlt] using hj
  have hone : Hid (∀ u ∈ ((List.range n).map fun i => Value.int .i64 (f i)), u.oneCell' = true) := fun u hu => by
    obtain ⟨i, _, rfl⟩ := List.mem_map.1 hu
    rfl
  obtain ⟨xs, hxs⟩ : ∃ xs, xs = ((List.range n).map fun i => Value.int .i64 (f i)) := ⟨_, rfl⟩
  rw [← hxs] at hsrc hone
  have HX : Hid (∀ i, i < n → xs[i]? = some (.int .i64 (f i))) := fun i hi => by rw [hxs]; simp [hi]
  have HL : Hid (xs.length = n) := by show xs.length = n; rw [hxs]; simp
  clear hxs h
  go_wp2_with (at_builtin; refine wpList_append_lies _ rfl (.tmp 3) (.tmp 5) 27 rfl 0 3 i0 (.int .i64 0) 1 8 Try.underlying27 hi hz0 hz1 hz2 rfl (by decide) _ 0 [] rfl oW.out ⟨b0, o0, none⟩ n c xs rfl (by rw [HL.out, Nat.mul_one]) hsrc.out hone.out hn (by unfold maxLen; omega) (by omega) (Nat.zero_le _) _ rfl ?_; intro g cap w' own' gr hg hgl; simp only [Nat.zero_add, List.nil_append] at own' hg hgl gr; have rx := copied_facts own' gr hbW (by simp) HX.out hn rW.out; clear own' gr; obtain ⟨⟨y1, y2⟩, x1, x2, x3, x4⟩ := rx; simp only [Nat.zero_add])
  have hg' : w.heap.size + 1 < g ∧ g < w'.heap.size := by
    rcases hg with hg | hg
    · have hg1 : some (w.heap.size + 1 + 1) = some g := hg
      simp only [Option.some.injEq] at hg1; omega
    · simp at hg; omega
  refine bodyPost_ret (v := .agg #[.slice (some ⟨g, 0, none⟩) n cap]) (by simp [results, Try.results127, go_sem, y1]) rfl ⟨g, cap, rfl, by omega, by simpa using hg'.2, x1.setOther (by show g ≠ w.heap.size + 1; omega) _, x3.setCell (by show w.heap.size ≤ w.heap.size + 1; omega) _⟩
end Go.Proofs.Ytnbcjdoohmjghaa
/- 'spec.l1Own': new memory that reads as the old one. -/
namespace Go.Proofs.Ytnbcjdoohmjghaa
open Go.RowKit
set_option linter.unusedSimpArgs false
theorem owned_bools {w : World} {g n cap : Nat} {xs : List Value} {f : Nat → Bool} (h : w.ownsRow 0 4 1 (.slice (some ⟨g, 0, none⟩) n cap) n xs) (hf : ∀ i, i < n → xs[i]? = some (.bool (f i))) (hn : 0 < n) : Row w g n (fun i => .bool (f i)) := owned_row h hf hn
/-- Behind the append of the marks. -/
structure Marked (w wA : World) (M g cap : Nat) (a b c : Value) (d : Nat → Bool) : Prop where
  blw : Blw w wA
  box : Row wA w.heap.size 3 (fun i => if i = 0 then a else if i = 1 then b else c)
  res : Row wA (w.heap.size + 1) 3 (fun _ => .slice none 0 0)
  bd : Row wA g 12 (fun i => .bool (d i))
  lo : w.heap.size + 1 < g
  sz : M = wA.heap.size
theorem own_start {w wA : World} {M g cap : Nat} {a b c : Value} {d : Nat → Bool} (h : Marked w wA M g cap a b c d) (l1 l2 : Nat → Nat) (sv cv : Nat → Nat → Int) : ∃ X1 X2 F1 c1 F2 c2,
    Build wA (wA.alloc (.cells #[.slice none 0 0, .slice none 0 0, .slice (some ⟨g, 0, none⟩) 12 cap] 26)) M (.slice none 0 0) (.slice none 0 0) (.slice (some ⟨g, 0, none⟩) 12 cap) 0 0 l1 l2 sv cv X1 X2 F1 c1 F2 c2 := by
  refine ⟨fun _ => False, fun _ => False, _, _, _, _, (Blw.refl _).alloc _, ?_, bld_nil _ _ _ _, bld_nil _ _ _ _, fun b hb => hb.elim, fun b hb => hb.elim, Nat.le_of_eq h.sz.symm⟩
  have := row_mem wA (.slice none 0 0) (.slice none 0 0) (.slice (some ⟨g, 0, none⟩) 12 cap) 26
  rw [← h.sz] at this
  exact this
theorem own_keep1 {w wr w' : World} {M : Nat} {v1 v2 v3 : Value} {k1 k2 : Nat} {l1 l2 : Nat → Nat} {s c : Nat → Nat → Int} {X1 X2 : Nat → Prop} {F1 c1 F2 c2 : Nat → Nat} (B : Build w wr M v1 v2 v3 k1 k2 l1 l2 s c X1 X2 F1 c1 F2 c2)
    (hS : Mod (fun x => v1.ownBlock = some x ∨ x = M) wr w') {p : Addr} {u : Value} (hp : w.cell? p = some u) : w'.cell? p = some u := by
  have hlt := World.block_lt_of_cell? _ _ hp
  refine hS.cell (B.blw.cell hp) (fun h => ?_)
  rcases h with h | h
  · have := (B.x1 _ (B.b1.blk _ h)).1; omega
  · have := B.wm; omega
theorem own_keep2 {w wr w' : World} {M : Nat} {v1 v2 v3 : Value} {k1 k2 : Nat} {l1 l2 : Nat → Nat} {s c : Nat → Nat → Int} {X1 X2 : Nat → Prop} {F1 c1 F2 c2 : Nat → Nat} (B : Build w wr M v1 v2 v3 k1 k2 l1 l2 s c X1 X2 F1 c1 F2 c2)
    (hS : Mod (fun x => v2.ownBlock = some x ∨ x = M) wr w') {p : Addr} {u : Value} (hp : w.cell? p = some u) : w'.cell? p = some u := by
  have hlt := World.block_lt_of_cell? _ _ hp
  refine hS.cell (B.blw.cell hp) (fun h => ?_)
  rcases h with h | h
  · have := (B.x2 _ (B.b2.blk _ h)).1; omega
  · have := B.wm; omega
theorem own_lines {Y : Nat → Prop} {w : World} {b o : Nat} {len : Nat → Nat} {v : Nat → Nat → Int} (h : ∀ k, k < 12 → ∃ e ce, w.cell? ⟨b, o + k, none⟩ = some (.slice e (len k) ce) ∧ IntsAt Y w e (len k) (v k)) (h4 : ∀ k, k < 12 → len k = 4) :
    ∀ k, k < 12 → ∃ b' o' ce, w.cell? ⟨b, o + k, none⟩ = some (.slice (some ⟨b', o', none⟩) 4 ce) ∧ ∀ i, i < 4 → w.cell? ⟨b', o' + i, none⟩ = some (.int .i64 (v k i)) := fun k hk => by
  obtain ⟨e, ce, h1, h2⟩ := h k hk
  rw [h4 k hk] at h1 h2
  obtain ⟨b', o', rfl, -, -⟩ := h2.2 0 (by omega)
  refine ⟨b', o', ce, h1, fun i hi => ?_⟩
  obtain ⟨b'', o'', e1, -, e2⟩ := h2.2 i hi
  simp only [Option.some.injEq, Addr.mk.injEq, and_true] at e1
  rw [e1.1, e1.2]; exact e2
theorem own_end {w wA wr we : World} {M g cap d1 d2 : Nat} {a b c : Value} {d : Nat → Bool} {a1 a2 : Option Addr} {sv cv : Nat → Nat → Int} {X1 X2 : Nat → Prop} {F1 c1 F2 c2 : Nat → Nat} (h : Marked w wA M g cap a b c d)
    (B : Build wA wr M (.slice a1 12 d1) (.slice a2 12 d2) (.slice (some ⟨g, 0, none⟩) 12 cap) 12 12 (fun _ => 4) (fun _ => 4) sv cv X1 X2 F1 c1 F2 c2) (hm : Mod (fun x => x = w.heap.size + 1) wr we) :
    MemOwn (fun b => w.heap.size ≤ b ∧ b < we.heap.size) we ⟨a1, a2, some ⟨g, 0, none⟩, d1, d2, cap⟩ (MD.full sv cv d) := by
  have hr : w.heap.size + 1 < wA.heap.size := h.res.lt
  have hg : g < wA.heap.size := h.bd.lt
  have hl := h.lo
  have hz := B.blw.size
  have hz2 := hm.size
  have n1 : ∀ b, X1 b → ¬ b = w.heap.size + 1 := fun b hb => by have := (B.x1 b hb).1; omega
  have n2 : ∀ b, X2 b → ¬ b = w.heap.size + 1 := fun b hb => by have := (B.x2 b hb).1; omega
  refine ⟨X1, X2, fun b => b = g, fun b hb => ?_, fun b hb => ?_, fun b hb => ?_, (B.b1.mod hm n1).lines (by omega), (B.b2.mod hm n2).lines (by omega), ⟨by show 12 ≤ _; omega, fun _ => ⟨g, rfl, rfl, ?_⟩⟩⟩
  · have := B.x1 b hb
    exact ⟨⟨by omega, by omega⟩, this.2.2.2, by omega⟩
  · have := B.x2 b hb
    exact ⟨⟨by omega, by omega⟩, by omega⟩
  · subst hb
    exact ⟨by omega, by omega⟩
  · exact (h.bd.blw B.blw).mod hm (by omega)
/-- What the append of the marks wants and leaves. -/
theorem own_append (w : World) (b1 o1 cc1 b2 o2 cc2 b3 o3 cc3 : Nat) (dd : Nat → Bool) (hd : ∀ k, k < 12 → w.cell? ⟨b3, o3 + k, none⟩ = some (.bool (dd k))) :
    let W := ((w.alloc (.cells #[.slice (some ⟨b1, o1, none⟩) 12 cc1, .slice (some ⟨b2, o2, none⟩) 12 cc2, .slice (some ⟨b3, o3, none⟩) 12 cc3] 26)).alloc (.cells #[.slice none 0 0, .slice none 0 0, .slice none 0 0] 26)).alloc (.cells #[] 4)
    W.ownsRow 0 4 1 (.slice (some ⟨w.heap.size + 1 + 1, 0, none⟩) 0 0) 0 [] ∧
    (∀ j u, ((List.range 12).map fun i => Value.bool (dd i))[j]? = some u → W.cell? ((⟨b3, o3, none⟩ : Addr).add j) = some u) ∧
    (∀ u ∈ ((List.range 12).map fun i => Value.bool (dd i)), u.oneCell' = true) ∧
    ∀ g cap wA, World.ownsRow wA 0 4 1 (.slice (some ⟨g, 0, none⟩) 12 cap) 12 ((List.range 12).map fun i => Value.bool (dd i)) → W.grownBy wA (some (w.heap.size + 1 + 1)) → (some (w.heap.size + 1 + 1) = some g ∨ g = W.heap.size) → g < wA.heap.size →
      Marked w wA wA.heap.size g cap (.slice (some ⟨b1, o1, none⟩) 12 cc1) (.slice (some ⟨b2, o2, none⟩) 12 cc2) (.slice (some ⟨b3, o3, none⟩) 12 cc3) dd := by
  intro W
  have hb : Blw w W := (((Blw.refl _).alloc _).alloc _).alloc _
  have hz : W.heap.size = w.heap.size + 1 + 1 + 1 := by simp [W]
  refine ⟨?_, fun j u hj => ?_, fun u hu => ?_, fun g cap wA own' gr hg hgl => ?_⟩
  · refine own_empty ?_
    have := heap_alloc_new ((w.alloc (.cells #[.slice (some ⟨b1, o1, none⟩) 12 cc1, .slice (some ⟨b2, o2, none⟩) 12 cc2, .slice (some ⟨b3, o3, none⟩) 12 cc3] 26)).alloc (.cells #[.slice none 0 0, .slice none 0 0, .slice none 0 0] 26)) (.cells #[] 4)
    rw [World.size_alloc, World.size_alloc] at this
    exact this
  · have hlt : j < 12 := by
      have := (List.getElem?_eq_some_iff.1 hj).1
      simpa using this
    rw [Addr.add_mid, hb.cell (hd j hlt)]
    simpa [hlt] using hj
  · obtain ⟨i, _, rfl⟩ := List.mem_map.1 hu
    rfl
  · have hm : Mod (fun x => x = w.heap.size + 1 + 1) W wA := ⟨gr.os, gr.tape, gr.output, gr.size, fun k hk hx => gr.block k hk (fun e => hx (by simpa using e))⟩
    have r0 : Row W w.heap.size 3 (fun i => if i = 0 then .slice (some ⟨b1, o1, none⟩) 12 cc1 else if i = 1 then .slice (some ⟨b2, o2, none⟩) 12 cc2 else .slice (some ⟨b3, o3, none⟩) 12 cc3) := (row_mem w _ _ _ 26).blw (((Blw.refl _).alloc _).alloc _)
    have r1 : Row W (w.heap.size + 1) 3 (fun _ => .slice none 0 0) := by
      have := (row_box (w.alloc (.cells #[.slice (some ⟨b1, o1, none⟩) 12 cc1, .slice (some ⟨b2, o2, none⟩) 12 cc2, .slice (some ⟨b3, o3, none⟩) 12 cc3] 26)) 26).blw ((Blw.refl _).alloc (.cells #[] 4))
      rw [World.size_alloc] at this
      exact this
    refine ⟨Mod.blw hb hm (fun i hi => by omega), r0.mod hm (by omega), r1.mod hm (by omega), owned_bools own' (fun i hi => by simp [hi]) (by omega), ?_, rfl⟩
    rcases hg with hg | hg
    · simp only [Option.some.injEq] at hg; omega
    · omega
set_option maxRecDepth 10000 in
set_option maxHeartbeats 3200000 in
theorem l1Own_any (m : MV) (MM : MD) (Y : Nat → Prop) (w : World) (gd : MM.Good) (h : MemAt Y w m MM) :
    Calls Try.prog 87 #[m.val MM] w fun e w' => ∃ m' : MV, e = .returned (m'.val (MD.full MM.v1 MM.v2 MM.d)) ∧ MemOwn (fun b => w.heap.size ≤ b ∧ b < w'.heap.size) w' m' (MD.full MM.v1 MM.v2 MM.d) ∧ Blw w w' := by
  obtain ⟨s, c, d⟩ := h
  obtain ⟨a1, a2, a3, cc1, cc2, cc3⟩ := m
  obtain ⟨n1, n2, n3, l1, l2, sv, cv, dd⟩ := MM
  obtain ⟨g1, g2, g3, ok⟩ := gd
  simp only at g1 g2 g3
  subst g1 g2 g3
  simp only [MV.val, MD.full] at *
  obtain ⟨b1, o1, e0, ce0, rfl, -⟩ := s.2 0 (by omega)
  obtain ⟨b2, o2, e0', ce0', rfl, -⟩ := c.2 0 (by omega)
  obtain ⟨b3, o3, rfl, -⟩ := d.2 0 (by omega)
  have hs := lines_fixed s
  have hc := lines_fixed c
  have hd := bools_fixed d
  clear s c d e0 ce0 e0' ce0'
  obtain ⟨i0, hi, hz0, hz1, hz2⟩ := info_parts tinfo4
  have HA : Hid _ := own_append w b1 o1 cc1 b2 o2 cc2 b3 o3 cc3 dd hd
  go_enter Try.func87, Try.ntmps87
  go_wp2_with (at_builtin; refine wpList_append_lies _ rfl (.tmp 5) (.tmp 7) 24 rfl 0 4 i0 (.bool false) 1 1 Try.underlying24 hi hz0 hz1 hz2 rfl (by decide) _ 0 [] rfl HA.out.1 ⟨b3, o3, none⟩ 12 cc3 ((List.range 12).map fun i => .bool (dd i)) rfl (by simp) HA.out.2.1 HA.out.2.2.1 (by decide) (by unfold maxLen; omega) (by omega) (Nat.zero_le _) _ rfl ?_; intro g cap wA own' gr hg hgl; simp only [Nat.zero_add, List.nil_append] at own' hg hgl gr; have MK := HA.out.2.2.2 g cap wA own' gr hg hgl; clear own' gr hg hgl; have pA0 := (get3 (MK.box.blw ((Blw.refl wA).alloc (.cells #[.slice none 0 0, .slice none 0 0, .slice (some ⟨g, 0, none⟩) 12 cap] 26)))).1; simp only [Nat.zero_add])
  clear HA
  have ok1 : ∀ k, k < 12 → l1 k = 4 := fun k hk => (ok k hk).a.1
  have ok2 : ∀ k, k < 12 → l2 k = 4 := fun k hk => (ok k hk).b.1
  replace hs := own_lines hs ok1
  replace hc := own_lines hc ok2
  clear ok ok1 ok2 hd pA0 hi hz0 hz1 hz2
  have hS := own_start MK (fun _ => 4) (fun _ => 4) sv cv
  generalize wA.heap.size = M at MK hS ⊢
  have HS : Hid _ := hs
  have HC : Hid _ := hc
  clear hs hc
  go_loopw [13] (fun i wr => ∃ k v1 v2 X1 X2 F1 c1 F2 c2, k ≤ 12 ∧ i = .int .i64 (k : Nat) ∧ Build wA wr M v1 v2 (.slice (some ⟨g, 0, none⟩) 12 cap) k k (fun _ => 4) (fun _ => 4) sv cv X1 X2 F1 c1 F2 c2) (fun i _ => 12 - (intOf i).toNat)
  case atStart =>
    obtain ⟨X1, X2, F1, c1, F2, c2, h⟩ := hS
    exact ⟨0, _, _, X1, X2, F1, c1, F2, c2, by omega, rfl, h⟩
  case round =>
    obtain ⟨k, v1, v2, X1, X2, F1, c1, F2, c2, hk, rfl, B⟩ := hrel
    clear hS
    by_cases hlt : k < 12
    · have p0 := B.cell0
      obtain ⟨b', o', ce, q0, q1⟩ := HS.out k hlt
      have RA : ∀ w', Mod (fun x => v1.ownBlock = some x ∨ x = M) wr w' → w'.cell? ⟨w.heap.size, 0, none⟩ = some (.slice (some ⟨b1, o1, none⟩) 12 cc1) := fun w' hS => own_keep1 B hS (get3 MK.box).1
      have RB : ∀ w', Mod (fun x => v1.ownBlock = some x ∨ x = M) wr w' → w'.cell? ⟨b1, o1 + k, none⟩ = some (.slice (some ⟨b', o', none⟩) 4 ce) := fun w' hS => own_keep1 B hS (MK.blw.cell q0)
      have RC : Hid (∀ w', Mod (fun x => v1.ownBlock = some x ∨ x = M) wr w' → ∀ i, i < 4 → w'.cell? ⟨b', o' + i, none⟩ = some (.int .i64 (sv k i))) := fun w' hS i hi => own_keep1 B hS (MK.blw.cell (q1 i hi))
      clear q0 q1
      go_wp2
      go_cut [] from 14 to 38 (fun wc => ∃ v1 X1 F1 c1, Build wA wc M v1 v2 (.slice (some ⟨g, 0, none⟩) 12 cap) (k + 1) k (fun _ => 4) (fun _ => 4) sv cv X1 X2 F1 c1 F2 c2)
      case first =>
          refine wp_region_noPanic ?_
          refine wp_region_held_drew (S := fun w' => Mod (fun x => v1.ownBlock = some x ∨ x = M) wr w') (by kernel_rfl) ((Blw.refl wr).drew.mod _) (fun hS1 => ?_)
          have h1 : Blw wr wr.drew := (Blw.refl wr).drew
          revert hS1 h1
          generalize wr.drew = w1
          intro hS1 h1
          refine wpAnyH_take (i := 0) (oi := { dst := some 16, op := Op.fieldAddr 26 (Operand.tmp 3) 0, type := 0, pos := _, after := #[], guard := none }) (v := .pointer (some ⟨M, 0, none⟩)) rfl (by kernel_rfl) (by kernel_rfl) (by kernel_rfl) (fun _ _ _ h => h) (Or.inl ⟨by rfl, fun w' hS => by (try dsimp only at hS); go_simp⟩) hS1 ?_
          simp only [Act.put, List.setIfInBounds_toArray, List.set_cons_zero, List.set_cons_succ]
          refine wpAnyH_take (i := 2) (oi := { dst := some 18, op := Op.fieldAddr 26 (Operand.tmp 1) 0, type := 0, pos := _, after := #[], guard := none }) (v := .pointer (some ⟨w.heap.size, 0, none⟩)) rfl (by kernel_rfl) (by kernel_rfl) (by kernel_rfl) (fun _ _ _ h => h) (Or.inl ⟨by rfl, fun w' hS => by (try dsimp only at hS); go_simp⟩) hS1 ?_
          simp only [Act.put, List.setIfInBounds_toArray, List.set_cons_zero, List.set_cons_succ]
          refine wpAnyH_take (i := 3) (oi := { dst := some 19, op := Op.load 23 (Operand.tmp 18), type := 23, pos := _, after := #[{ on := 2, ground := Ground.data }], guard := none }) (v := .slice (some ⟨b1, o1, none⟩) 12 cc1) rfl (by kernel_rfl) (by kernel_rfl) (by kernel_rfl) (fun _ _ _ h => h) (Or.inl ⟨by rfl, fun w' hS => by (try dsimp only at hS); go_simp⟩) hS1 ?_
          simp only [Act.put, List.setIfInBounds_toArray, List.set_cons_zero, List.set_cons_succ]
          refine wpAnyH_take (i := 4) (oi := { dst := some 20, op := Op.move (Operand.tmp 4), type := 3, pos := _, after := #[], guard := none }) (v := .int .i64 k) rfl (by kernel_rfl) (by kernel_rfl) (by kernel_rfl) (fun _ _ _ h => h) (Or.inl ⟨by rfl, fun w' hS => by (try dsimp only at hS); go_simp⟩) hS1 ?_
          simp only [Act.put, List.setIfInBounds_toArray, List.set_cons_zero, List.set_cons_succ]
          refine wpAnyH_take (i := 5) (oi := { dst := some 21, op := Op.indexAddr 23 (Operand.tmp 19) (Operand.tmp 20), type := 0, pos := _, after := #[{ on := 3, ground := Ground.data }, { on := 4, ground := Ground.data }], guard := none }) (v := .pointer (some ⟨b1, o1 + k, none⟩)) rfl (by kernel_rfl) (by kernel_rfl) (by kernel_rfl) (fun _ _ _ h => h) (Or.inl ⟨by rfl, fun w' hS => by (try dsimp only at hS); go_simp⟩) hS1 ?_
          simp only [Act.put, List.setIfInBounds_toArray, List.set_cons_zero, List.set_cons_succ]
          refine wpAnyH_take (i := 6) (oi := { dst := some 22, op := Op.load 37 (Operand.tmp 21), type := 37, pos := _, after := #[{ on := 5, ground := Ground.data }], guard := none }) (v := .agg #[.slice (some ⟨b', o', none⟩) 4 ce]) rfl (by kernel_rfl) (by kernel_rfl) (by kernel_rfl) (fun _ _ _ h => h) (Or.inl ⟨by rfl, fun w' hS => by (try dsimp only at hS); go_simp⟩) hS1 ?_
          simp only [Act.put, List.setIfInBounds_toArray, List.set_cons_zero, List.set_cons_succ]
          refine wpAnyH_ready (rs := [1, 7]) (by kernel_rfl) (by simp) ?_
          refine AllReadyH.cons (o := { dst := some 17, op := Op.load 23 (Operand.tmp 16), type := 23, pos := _, after := #[{ on := 0, ground := Ground.data }], guard := none }) rfl (fun K hK => ?_) (AllReadyH.cons (o := { dst := some 23, op := Op.call { callee := Callee.value (Operand.func 127), args := #[Operand.tmp 22], argTypes := #[37] }, type := 37, pos := _, after := #[{ on := 6, ground := Ground.data }], guard := none }) rfl (fun K hK => ?_) AllReadyH.nil)
          · -- operation 1
            have mc := h1.cell p0
            go_simp
            refine hK.out _ _ hS1 (fun hS2 => ?_)
            clear hK K mc
            try simp only [Act.put, List.setIfInBounds_toArray, List.set_cons_zero, List.set_cons_succ]
            clear hS2
            refine wpAnyH_ready (rs := [7]) (by kernel_rfl) (by simp) ?_
            refine AllReadyH.cons (o := { dst := some 23, op := Op.call { callee := Callee.value (Operand.func 127), args := #[Operand.tmp 22], argTypes := #[37] }, type := 37, pos := _, after := #[{ on := 6, ground := Ground.data }], guard := none }) rfl (fun K hK => ?_) AllReadyH.nil
            · -- operation 7
              go_simp
              refine (l1Copy_any _ _ _ 4 (sv k) _ (by omega) (by omega) (RC.out _ hS1)).mono ?_
              rintro e w2 ⟨b, cc, rfl, hlo0, hhi, hrow, hb2⟩
              have h2 := h1.trans hb2
              have hlo : wr.heap.size ≤ b := by have := h1.size; omega
              refine hK.out _ _ (h2.mod _) (fun hS2 => ?_)
              clear hK K hlo0 hb2
              try simp only [Act.put, List.setIfInBounds_toArray, List.set_cons_zero, List.set_cons_succ]
              have hbx : ¬ X1 b := fun hx => by have := (B.x1 b hx).2.1; omega
              refine wpAnyH_ready (rs := [8]) (by kernel_rfl) (by simp) ?_
              refine AllReadyH.cons (o := { dst := some 24, op := Op.buildSlice 23 1 #[(0, Operand.tmp 23)], type := 23, pos := _, after := #[{ on := 7, ground := Ground.data }], guard := none }) rfl (fun K hK => ?_) AllReadyH.nil
              · -- operation 8
                go_simp
                have hnew : (w2.alloc (.cells #[.slice (some ⟨b, 0, none⟩) 4 cc] 37)).cell? ⟨w2.heap.size, 0, none⟩ = some (.slice (some ⟨b, 0, none⟩) 4 cc) := by go_cell
                have hbw : Blw w2 (w2.alloc (.cells #[.slice (some ⟨b, 0, none⟩) 4 cc] 37)) := (Blw.refl _).alloc _
                refine hK.out _ _ ((h2.trans hbw).mod _) (fun hS3 => ?_)
                clear hK K
                try simp only [Act.put, List.setIfInBounds_toArray, List.set_cons_zero, List.set_cons_succ]
                revert hnew hbw hS3
                generalize w2.alloc (.cells #[.slice (some ⟨b, 0, none⟩) 4 cc] 37) = w3
                intro hnew hbw hS3
                generalize w2.heap.size = nb at hnew ⊢
                replace hrow := hrow.blw hbw
                replace hhi := Nat.lt_of_lt_of_le hhi hbw.size
                have h3 := h2.trans hbw
                clear hbw
                refine wpAnyH_ready (rs := [9]) (by kernel_rfl) (by simp) ?_
                refine AllReadyH.cons (o := { dst := some 25, op := Op.call { callee := Callee.builtin Builtin.append, args := #[Operand.tmp 17, Operand.tmp 24], argTypes := #[23, 23] }, type := 23, pos := _, after := #[{ on := 1, ground := Ground.data }, { on := 8, ground := Ground.data }, { on := 7, ground := Ground.chain }], guard := none }) rfl (fun K hK => ?_) AllReadyH.nil
                refine step_append_line rfl (.tmp 17) (.tmp 24) rfl B.b1 rfl ⟨nb, 0, none⟩ b cc rfl (by omega) (by omega) hbx h3 hnew hrow ?_
                intro g cap wN hN hm hg hgl
                have hSN : Mod (fun x => v1.ownBlock = some x ∨ x = M) wr wN := Mod.trans (h3.mod _) (hm.mono (fun x hx => Or.inl hx))
                refine hK.out _ _ hSN (fun hSm => ?_)
                clear hK K
                try simp only [Act.put, List.setIfInBounds_toArray, List.set_cons_zero, List.set_cons_succ]
                refine wpAnyH_take (i := 10) (oi := { dst := some 26, op := Op.fieldAddr 26 (Operand.tmp 3) 0, type := 0, pos := _, after := #[{ on := 0, ground := Ground.phase }, { on := 1, ground := Ground.phase }, { on := 2, ground := Ground.phase }, { on := 3, ground := Ground.phase }, { on := 4, ground := Ground.phase }, { on := 5, ground := Ground.phase }, { on := 6, ground := Ground.phase }, { on := 7, ground := Ground.phase }, { on := 8, ground := Ground.phase }, { on := 9, ground := Ground.phase }], guard := none }) (v := .pointer (some ⟨M, 0, none⟩)) rfl (by kernel_rfl) (by kernel_rfl) (by kernel_rfl) (fun _ _ _ h => h) (Or.inl ⟨by rfl, fun w' hS => by (try dsimp only at hS); go_simp⟩) hSm ?_
                simp only [Act.put, List.setIfInBounds_toArray, List.set_cons_zero, List.set_cons_succ]
                have QQ := build_q1 B h3 hm
                obtain ⟨qq0, qq1⟩ := QQ
                refine wpAnyH_ready (rs := [11]) (by kernel_rfl) (by simp) ?_
                refine AllReadyH.cons (o := { dst := none, op := Op.store 23 (Operand.tmp 26) (Operand.tmp 25), type := 0, pos := _, after := #[{ on := 10, ground := Ground.data }, { on := 9, ground := Ground.data }, { on := 9, ground := Ground.chain }, { on := 0, ground := Ground.phase }, { on := 1, ground := Ground.phase }, { on := 2, ground := Ground.phase }, { on := 3, ground := Ground.phase }, { on := 4, ground := Ground.phase }, { on := 5, ground := Ground.phase }, { on := 6, ground := Ground.phase }, { on := 7, ground := Ground.phase }, { on := 8, ground := Ground.phase }, { on := 9, ground := Ground.phase }], guard := none }) rfl (fun K hK => ?_) AllReadyH.nil
                go_simp
                refine hK.out _ _ (hSm.trans (Mod.setCell (X := fun x => v1.ownBlock = some x ∨ x = M) _ (p := ⟨M, 0, none⟩) (Or.inr rfl) _)) (fun hSe => ?_)
                clear hK K qq0 qq1 hSe hSm hSN
                refine wpAnyH_done (by kernel_rfl) ?_ _
                refine NoPanic.normal ?_
                have BN := build_first B h3 hlo hhi hN hm hg hgl
                clear hN hm hg hgl hnew hrow RA RB
                go_wp2
                go_meet
                exact ⟨_, _, _, _, BN⟩
          · -- operation 7
            go_simp
            refine (l1Copy_any _ _ _ 4 (sv k) _ (by omega) (by omega) (RC.out _ hS1)).mono ?_
            rintro e w2 ⟨b, cc, rfl, hlo0, hhi, hrow, hb2⟩
            have h2 := h1.trans hb2
            have hlo : wr.heap.size ≤ b := by have := h1.size; omega
            refine hK.out _ _ (h2.mod _) (fun hS2 => ?_)
            clear hK K hlo0 hb2
            try simp only [Act.put, List.setIfInBounds_toArray, List.set_cons_zero, List.set_cons_succ]
            have hbx : ¬ X1 b := fun hx => by have := (B.x1 b hx).2.1; omega
            refine wpAnyH_ready (rs := [1, 8]) (by kernel_rfl) (by simp) ?_
            refine AllReadyH.cons (o := { dst := some 17, op := Op.load 23 (Operand.tmp 16), type := 23, pos := _, after := #[{ on := 0, ground := Ground.data }], guard := none }) rfl (fun K hK => ?_) (AllReadyH.cons (o := { dst := some 24, op := Op.buildSlice 23 1 #[(0, Operand.tmp 23)], type := 23, pos := _, after := #[{ on := 7, ground := Ground.data }], guard := none }) rfl (fun K hK => ?_) AllReadyH.nil)
            · -- operation 1
              have mc := h2.cell p0
              go_simp
              refine hK.out _ _ hS2 (fun hS3 => ?_)
              clear hK K mc
              try simp only [Act.put, List.setIfInBounds_toArray, List.set_cons_zero, List.set_cons_succ]
              clear hS3
              refine wpAnyH_ready (rs := [8]) (by kernel_rfl) (by simp) ?_
              refine AllReadyH.cons (o := { dst := some 24, op := Op.buildSlice 23 1 #[(0, Operand.tmp 23)], type := 23, pos := _, after := #[{ on := 7, ground := Ground.data }], guard := none }) rfl (fun K hK => ?_) AllReadyH.nil
              · -- operation 8
                go_simp
                have hnew : (w2.alloc (.cells #[.slice (some ⟨b, 0, none⟩) 4 cc] 37)).cell? ⟨w2.heap.size, 0, none⟩ = some (.slice (some ⟨b, 0, none⟩) 4 cc) := by go_cell
                have hbw : Blw w2 (w2.alloc (.cells #[.slice (some ⟨b, 0, none⟩) 4 cc] 37)) := (Blw.refl _).alloc _
                refine hK.out _ _ ((h2.trans hbw).mod _) (fun hS3 => ?_)
                clear hK K
                try simp only [Act.put, List.setIfInBounds_toArray, List.set_cons_zero, List.set_cons_succ]
                revert hnew hbw hS3
                generalize w2.alloc (.cells #[.slice (some ⟨b, 0, none⟩) 4 cc] 37) = w3
                intro hnew hbw hS3
                generalize w2.heap.size = nb at hnew ⊢
                replace hrow := hrow.blw hbw
                replace hhi := Nat.lt_of_lt_of_le hhi hbw.size
                have h3 := h2.trans hbw
                clear hbw
                refine wpAnyH_ready (rs := [9]) (by kernel_rfl) (by simp) ?_
                refine AllReadyH.cons (o := { dst := some 25, op := Op.call { callee := Callee.builtin Builtin.append, args := #[Operand.tmp 17, Operand.tmp 24], argTypes := #[23, 23] }, type := 23, pos := _, after := #[{ on := 1, ground := Ground.data }, { on := 8, ground := Ground.data }, { on := 7, ground := Ground.chain }], guard := none }) rfl (fun K hK => ?_) AllReadyH.nil
                refine step_append_line rfl (.tmp 17) (.tmp 24) rfl B.b1 rfl ⟨nb, 0, none⟩ b cc rfl (by omega) (by omega) hbx h3 hnew hrow ?_
                intro g cap wN hN hm hg hgl
                have hSN : Mod (fun x => v1.ownBlock = some x ∨ x = M) wr wN := Mod.trans (h3.mod _) (hm.mono (fun x hx => Or.inl hx))
                refine hK.out _ _ hSN (fun hSm => ?_)
                clear hK K
                try simp only [Act.put, List.setIfInBounds_toArray, List.set_cons_zero, List.set_cons_succ]
                refine wpAnyH_take (i := 10) (oi := { dst := some 26, op := Op.fieldAddr 26 (Operand.tmp 3) 0, type := 0, pos := _, after := #[{ on := 0, ground := Ground.phase }, { on := 1, ground := Ground.phase }, { on := 2, ground := Ground.phase }, { on := 3, ground := Ground.phase }, { on := 4, ground := Ground.phase }, { on := 5, ground := Ground.phase }, { on := 6, ground := Ground.phase }, { on := 7, ground := Ground.phase }, { on := 8, ground := Ground.phase }, { on := 9, ground := Ground.phase }], guard := none }) (v := .pointer (some ⟨M, 0, none⟩)) rfl (by kernel_rfl) (by kernel_rfl) (by kernel_rfl) (fun _ _ _ h => h) (Or.inl ⟨by rfl, fun w' hS => by (try dsimp only at hS); go_simp⟩) hSm ?_
                simp only [Act.put, List.setIfInBounds_toArray, List.set_cons_zero, List.set_cons_succ]
                have QQ := build_q1 B h3 hm
                obtain ⟨qq0, qq1⟩ := QQ
                refine wpAnyH_ready (rs := [11]) (by kernel_rfl) (by simp) ?_
                refine AllReadyH.cons (o := { dst := none, op := Op.store 23 (Operand.tmp 26) (Operand.tmp 25), type := 0, pos := _, after := #[{ on := 10, ground := Ground.data }, { on := 9, ground := Ground.data }, { on := 9, ground := Ground.chain }, { on := 0, ground := Ground.phase }, { on := 1, ground := Ground.phase }, { on := 2, ground := Ground.phase }, { on := 3, ground := Ground.phase }, { on := 4, ground := Ground.phase }, { on := 5, ground := Ground.phase }, { on := 6, ground := Ground.phase }, { on := 7, ground := Ground.phase }, { on := 8, ground := Ground.phase }, { on := 9, ground := Ground.phase }], guard := none }) rfl (fun K hK => ?_) AllReadyH.nil
                go_simp
                refine hK.out _ _ (hSm.trans (Mod.setCell (X := fun x => v1.ownBlock = some x ∨ x = M) _ (p := ⟨M, 0, none⟩) (Or.inr rfl) _)) (fun hSe => ?_)
                clear hK K qq0 qq1 hSe hSm hSN
                refine wpAnyH_done (by kernel_rfl) ?_ _
                refine NoPanic.normal ?_
                have BN := build_first B h3 hlo hhi hN hm hg hgl
                clear hN hm hg hgl hnew hrow RA RB
                go_wp2
                go_meet
                exact ⟨_, _, _, _, BN⟩
            · -- operation 8
              go_simp
              have hnew : (w2.alloc (.cells #[.slice (some ⟨b, 0, none⟩) 4 cc] 37)).cell? ⟨w2.heap.size, 0, none⟩ = some (.slice (some ⟨b, 0, none⟩) 4 cc) := by go_cell
              have hbw : Blw w2 (w2.alloc (.cells #[.slice (some ⟨b, 0, none⟩) 4 cc] 37)) := (Blw.refl _).alloc _
              refine hK.out _ _ ((h2.trans hbw).mod _) (fun hS3 => ?_)
              clear hK K
              try simp only [Act.put, List.setIfInBounds_toArray, List.set_cons_zero, List.set_cons_succ]
              revert hnew hbw hS3
              generalize w2.alloc (.cells #[.slice (some ⟨b, 0, none⟩) 4 cc] 37) = w3
              intro hnew hbw hS3
              generalize w2.heap.size = nb at hnew ⊢
              replace hrow := hrow.blw hbw
              replace hhi := Nat.lt_of_lt_of_le hhi hbw.size
              have h3 := h2.trans hbw
              clear hbw
              refine wpAnyH_ready (rs := [1]) (by kernel_rfl) (by simp) ?_
              refine AllReadyH.cons (o := { dst := some 17, op := Op.load 23 (Operand.tmp 16), type := 23, pos := _, after := #[{ on := 0, ground := Ground.data }], guard := none }) rfl (fun K hK => ?_) AllReadyH.nil
              · -- operation 1
                have mc := h3.cell p0
                go_simp
                refine hK.out _ _ hS3 (fun hS4 => ?_)
                clear hK K mc
                try simp only [Act.put, List.setIfInBounds_toArray, List.set_cons_zero, List.set_cons_succ]
                clear hS4
                refine wpAnyH_ready (rs := [9]) (by kernel_rfl) (by simp) ?_
                refine AllReadyH.cons (o := { dst := some 25, op := Op.call { callee := Callee.builtin Builtin.append, args := #[Operand.tmp 17, Operand.tmp 24], argTypes := #[23, 23] }, type := 23, pos := _, after := #[{ on := 1, ground := Ground.data }, { on := 8, ground := Ground.data }, { on := 7, ground := Ground.chain }], guard := none }) rfl (fun K hK => ?_) AllReadyH.nil
                refine step_append_line rfl (.tmp 17) (.tmp 24) rfl B.b1 rfl ⟨nb, 0, none⟩ b cc rfl (by omega) (by omega) hbx h3 hnew hrow ?_
                intro g cap wN hN hm hg hgl
                have hSN : Mod (fun x => v1.ownBlock = some x ∨ x = M) wr wN := Mod.trans (h3.mod _) (hm.mono (fun x hx => Or.inl hx))
                refine hK.out _ _ hSN (fun hSm => ?_)
                clear hK K
                try simp only [Act.put, List.setIfInBounds_toArray, List.set_cons_zero, List.set_cons_succ]
                refine wpAnyH_take (i := 10) (oi := { dst := some 26, op := Op.fieldAddr 26 (Operand.tmp 3) 0, type := 0, pos := _, after := #[{ on := 0, ground := Ground.phase }, { on := 1, ground := Ground.phase }, { on := 2, ground := Ground.phase }, { on := 3, ground := Ground.phase }, { on := 4, ground := Ground.phase }, { on := 5, ground := Ground.phase }, { on := 6, ground := Ground.phase }, { on := 7, ground := Ground.phase }, { on := 8, ground := Ground.phase }, { on := 9, ground := Ground.phase }], guard := none }) (v := .pointer (some ⟨M, 0, none⟩)) rfl (by kernel_rfl) (by kernel_rfl) (by kernel_rfl) (fun _ _ _ h => h) (Or.inl ⟨by rfl, fun w' hS => by (try dsimp only at hS); go_simp⟩) hSm ?_
                simp only [Act.put, List.setIfInBounds_toArray, List.set_cons_zero, List.set_cons_succ]
                have QQ := build_q1 B h3 hm
                obtain ⟨qq0, qq1⟩ := QQ
                refine wpAnyH_ready (rs := [11]) (by kernel_rfl) (by simp) ?_
                refine AllReadyH.cons (o := { dst := none, op := Op.store 23 (Operand.tmp 26) (Operand.tmp 25), type := 0, pos := _, after := #[{ on := 10, ground := Ground.data }, { on := 9, ground := Ground.data }, { on := 9, ground := Ground.chain }, { on := 0, ground := Ground.phase }, { on := 1, ground := Ground.phase }, { on := 2, ground := Ground.phase }, { on := 3, ground := Ground.phase }, { on := 4, ground := Ground.phase }, { on := 5, ground := Ground.phase }, { on := 6, ground := Ground.phase }, { on := 7, ground := Ground.phase }, { on := 8, ground := Ground.phase }, { on := 9, ground := Ground.phase }], guard := none }) rfl (fun K hK => ?_) AllReadyH.nil
                go_simp
                refine hK.out _ _ (hSm.trans (Mod.setCell (X := fun x => v1.ownBlock = some x ∨ x = M) _ (p := ⟨M, 0, none⟩) (Or.inr rfl) _)) (fun hSe => ?_)
                clear hK K qq0 qq1 hSe hSm hSN
                refine wpAnyH_done (by kernel_rfl) ?_ _
                refine NoPanic.normal ?_
                have BN := build_first B h3 hlo hhi hN hm hg hgl
                clear hN hm hg hgl hnew hrow RA RB
                go_wp2
                go_meet
                exact ⟨_, _, _, _, BN⟩
      case rest =>
        obtain ⟨v1', X1', F1', c1', B'⟩ := hcut
        clear B p0 RA RB RC b' o' ce
        have B := B'
        clear B'
        have p1 := B.cell1
        obtain ⟨b', o', ce, q0, q1⟩ := HC.out k hlt
        have RA : ∀ w', Mod (fun x => v2.ownBlock = some x ∨ x = M) wc w' → w'.cell? ⟨w.heap.size, 1, none⟩ = some (.slice (some ⟨b2, o2, none⟩) 12 cc2) := fun w' hS => own_keep2 B hS (get3 MK.box).2.1
        have RB : ∀ w', Mod (fun x => v2.ownBlock = some x ∨ x = M) wc w' → w'.cell? ⟨b2, o2 + k, none⟩ = some (.slice (some ⟨b', o', none⟩) 4 ce) := fun w' hS => own_keep2 B hS (MK.blw.cell q0)
        have RC : Hid (∀ w', Mod (fun x => v2.ownBlock = some x ∨ x = M) wc w' → ∀ i, i < 4 → w'.cell? ⟨b', o' + i, none⟩ = some (.int .i64 (cv k i))) := fun w' hS i hi => own_keep2 B hS (MK.blw.cell (q1 i hi))
        clear q0 q1
        go_wp2
        refine wp_region_noPanic ?_
        refine wp_region_held_drew (S := fun w' => Mod (fun x => v2.ownBlock = some x ∨ x = M) wc w') (by kernel_rfl) ((Blw.refl wc).drew.mod _) (fun hS1 => ?_)
        have h1 : Blw wc wc.drew := (Blw.refl wc).drew
        revert hS1 h1
        generalize wc.drew = w1
        intro hS1 h1
        refine wpAnyH_take (i := 0) (oi := { dst := some 27, op := Op.fieldAddr 26 (Operand.tmp 3) 1, type := 0, pos := _, after := #[], guard := none }) (v := .pointer (some ⟨M, 1, none⟩)) rfl (by kernel_rfl) (by kernel_rfl) (by kernel_rfl) (fun _ _ _ h => h) (Or.inl ⟨by rfl, fun w' hS => by (try dsimp only at hS); go_simp⟩) hS1 ?_
        simp only [Act.put, List.setIfInBounds_toArray, List.set_cons_zero, List.set_cons_succ]
        refine wpAnyH_take (i := 2) (oi := { dst := some 29, op := Op.fieldAddr 26 (Operand.tmp 1) 1, type := 0, pos := _, after := #[], guard := none }) (v := .pointer (some ⟨w.heap.size, 1, none⟩)) rfl (by kernel_rfl) (by kernel_rfl) (by kernel_rfl) (fun _ _ _ h => h) (Or.inl ⟨by rfl, fun w' hS => by (try dsimp only at hS); go_simp⟩) hS1 ?_
        simp only [Act.put, List.setIfInBounds_toArray, List.set_cons_zero, List.set_cons_succ]
        refine wpAnyH_take (i := 3) (oi := { dst := some 30, op := Op.load 23 (Operand.tmp 29), type := 23, pos := _, after := #[{ on := 2, ground := Ground.data }], guard := none }) (v := .slice (some ⟨b2, o2, none⟩) 12 cc2) rfl (by kernel_rfl) (by kernel_rfl) (by kernel_rfl) (fun _ _ _ h => h) (Or.inl ⟨by rfl, fun w' hS => by (try dsimp only at hS); go_simp⟩) hS1 ?_
        simp only [Act.put, List.setIfInBounds_toArray, List.set_cons_zero, List.set_cons_succ]
        refine wpAnyH_take (i := 4) (oi := { dst := some 31, op := Op.move (Operand.tmp 4), type := 3, pos := _, after := #[], guard := none }) (v := .int .i64 k) rfl (by kernel_rfl) (by kernel_rfl) (by kernel_rfl) (fun _ _ _ h => h) (Or.inl ⟨by rfl, fun w' hS => by (try dsimp only at hS); go_simp⟩) hS1 ?_
        simp only [Act.put, List.setIfInBounds_toArray, List.set_cons_zero, List.set_cons_succ]
        refine wpAnyH_take (i := 5) (oi := { dst := some 32, op := Op.indexAddr 23 (Operand.tmp 30) (Operand.tmp 31), type := 0, pos := _, after := #[{ on := 3, ground := Ground.data }, { on := 4, ground := Ground.data }], guard := none }) (v := .pointer (some ⟨b2, o2 + k, none⟩)) rfl (by kernel_rfl) (by kernel_rfl) (by kernel_rfl) (fun _ _ _ h => h) (Or.inl ⟨by rfl, fun w' hS => by (try dsimp only at hS); go_simp⟩) hS1 ?_
        simp only [Act.put, List.setIfInBounds_toArray, List.set_cons_zero, List.set_cons_succ]
        refine wpAnyH_take (i := 6) (oi := { dst := some 33, op := Op.load 37 (Operand.tmp 32), type := 37, pos := _, after := #[{ on := 5, ground := Ground.data }], guard := none }) (v := .agg #[.slice (some ⟨b', o', none⟩) 4 ce]) rfl (by kernel_rfl) (by kernel_rfl) (by kernel_rfl) (fun _ _ _ h => h) (Or.inl ⟨by rfl, fun w' hS => by (try dsimp only at hS); go_simp⟩) hS1 ?_
        simp only [Act.put, List.setIfInBounds_toArray, List.set_cons_zero, List.set_cons_succ]
        refine wpAnyH_ready (rs := [1, 7]) (by kernel_rfl) (by simp) ?_
        refine AllReadyH.cons (o := { dst := some 28, op := Op.load 23 (Operand.tmp 27), type := 23, pos := _, after := #[{ on := 0, ground := Ground.data }], guard := none }) rfl (fun K hK => ?_) (AllReadyH.cons (o := { dst := some 34, op := Op.call { callee := Callee.value (Operand.func 127), args := #[Operand.tmp 33], argTypes := #[37] }, type := 37, pos := _, after := #[{ on := 6, ground := Ground.data }], guard := none }) rfl (fun K hK => ?_) AllReadyH.nil)
        · -- operation 1
          have mc := h1.cell p1
          go_simp
          refine hK.out _ _ hS1 (fun hS2 => ?_)
          clear hK K mc
          try simp only [Act.put, List.setIfInBounds_toArray, List.set_cons_zero, List.set_cons_succ]
          clear hS2
          refine wpAnyH_ready (rs := [7]) (by kernel_rfl) (by simp) ?_
          refine AllReadyH.cons (o := { dst := some 34, op := Op.call { callee := Callee.value (Operand.func 127), args := #[Operand.tmp 33], argTypes := #[37] }, type := 37, pos := _, after := #[{ on := 6, ground := Ground.data }], guard := none }) rfl (fun K hK => ?_) AllReadyH.nil
          · -- operation 7
            go_simp
            refine (l1Copy_any _ _ _ 4 (cv k) _ (by omega) (by omega) (RC.out _ hS1)).mono ?_
            rintro e w2 ⟨b, cc, rfl, hlo0, hhi, hrow, hb2⟩
            have h2 := h1.trans hb2
            have hlo : wc.heap.size ≤ b := by have := h1.size; omega
            refine hK.out _ _ (h2.mod _) (fun hS2 => ?_)
            clear hK K hlo0 hb2
            try simp only [Act.put, List.setIfInBounds_toArray, List.set_cons_zero, List.set_cons_succ]
            have hbx : ¬ X2 b := fun hx => by have := (B.x2 b hx).2.1; omega
            refine wpAnyH_ready (rs := [8]) (by kernel_rfl) (by simp) ?_
            refine AllReadyH.cons (o := { dst := some 35, op := Op.buildSlice 23 1 #[(0, Operand.tmp 34)], type := 23, pos := _, after := #[{ on := 7, ground := Ground.data }], guard := none }) rfl (fun K hK => ?_) AllReadyH.nil
            · -- operation 8
              go_simp
              have hnew : (w2.alloc (.cells #[.slice (some ⟨b, 0, none⟩) 4 cc] 37)).cell? ⟨w2.heap.size, 0, none⟩ = some (.slice (some ⟨b, 0, none⟩) 4 cc) := by go_cell
              have hbw : Blw w2 (w2.alloc (.cells #[.slice (some ⟨b, 0, none⟩) 4 cc] 37)) := (Blw.refl _).alloc _
              refine hK.out _ _ ((h2.trans hbw).mod _) (fun hS3 => ?_)
              clear hK K
              try simp only [Act.put, List.setIfInBounds_toArray, List.set_cons_zero, List.set_cons_succ]
              revert hnew hbw hS3
              generalize w2.alloc (.cells #[.slice (some ⟨b, 0, none⟩) 4 cc] 37) = w3
              intro hnew hbw hS3
              generalize w2.heap.size = nb at hnew ⊢
              replace hrow := hrow.blw hbw
              replace hhi := Nat.lt_of_lt_of_le hhi hbw.size
              have h3 := h2.trans hbw
              clear hbw
              refine wpAnyH_ready (rs := [9]) (by kernel_rfl) (by simp) ?_
              refine AllReadyH.cons (o := { dst := some 36, op := Op.call { callee := Callee.builtin Builtin.append, args := #[Operand.tmp 28, Operand.tmp 35], argTypes := #[23, 23] }, type := 23, pos := _, after := #[{ on := 1, ground := Ground.data }, { on := 8, ground := Ground.data }, { on := 7, ground := Ground.chain }], guard := none }) rfl (fun K hK => ?_) AllReadyH.nil
              refine step_append_line rfl (.tmp 28) (.tmp 35) rfl B.b2 rfl ⟨nb, 0, none⟩ b cc rfl (by omega) (by omega) hbx h3 hnew hrow ?_
              intro g cap wN hN hm hg hgl
              have hSN : Mod (fun x => v2.ownBlock = some x ∨ x = M) wc wN := Mod.trans (h3.mod _) (hm.mono (fun x hx => Or.inl hx))
              refine hK.out _ _ hSN (fun hSm => ?_)
              clear hK K
              try simp only [Act.put, List.setIfInBounds_toArray, List.set_cons_zero, List.set_cons_succ]
              refine wpAnyH_take (i := 10) (oi := { dst := some 37, op := Op.fieldAddr 26 (Operand.tmp 3) 1, type := 0, pos := _, after := #[{ on := 0, ground := Ground.phase }, { on := 1, ground := Ground.phase }, { on := 2, ground := Ground.phase }, { on := 3, ground := Ground.phase }, { on := 4, ground := Ground.phase }, { on := 5, ground := Ground.phase }, { on := 6, ground := Ground.phase }, { on := 7, ground := Ground.phase }, { on := 8, ground := Ground.phase }, { on := 9, ground := Ground.phase }], guard := none }) (v := .pointer (some ⟨M, 1, none⟩)) rfl (by kernel_rfl) (by kernel_rfl) (by kernel_rfl) (fun _ _ _ h => h) (Or.inl ⟨by rfl, fun w' hS => by (try dsimp only at hS); go_simp⟩) hSm ?_
              simp only [Act.put, List.setIfInBounds_toArray, List.set_cons_zero, List.set_cons_succ]
              have QQ := build_q2 B h3 hm
              obtain ⟨qq0, qq1⟩ := QQ
              refine wpAnyH_ready (rs := [11]) (by kernel_rfl) (by simp) ?_
              refine AllReadyH.cons (o := { dst := none, op := Op.store 23 (Operand.tmp 37) (Operand.tmp 36), type := 0, pos := _, after := #[{ on := 10, ground := Ground.data }, { on := 9, ground := Ground.data }, { on := 9, ground := Ground.chain }, { on := 0, ground := Ground.phase }, { on := 1, ground := Ground.phase }, { on := 2, ground := Ground.phase }, { on := 3, ground := Ground.phase }, { on := 4, ground := Ground.phase }, { on := 5, ground := Ground.phase }, { on := 6, ground := Ground.phase }, { on := 7, ground := Ground.phase }, { on := 8, ground := Ground.phase }, { on := 9, ground := Ground.phase }], guard := none }) rfl (fun K hK => ?_) AllReadyH.nil
              go_simp
              refine hK.out _ _ (hSm.trans (Mod.setCell (X := fun x => v2.ownBlock = some x ∨ x = M) _ (p := ⟨M, 1, none⟩) (Or.inr rfl) _)) (fun hSe => ?_)
              clear hK K qq0 qq1 hSe hSm hSN
              refine wpAnyH_done (by kernel_rfl) ?_ _
              refine NoPanic.normal ?_
              have BN := build_second B h3 hlo hhi hN hm hg hgl
              clear hN hm hg hgl hnew hrow RA RB
              go_wp2
              go_roundw
              case rel => exact ⟨k + 1, _, _, _, _, _, _, _, _, by omega, by go_num, BN⟩
              case measure => simp [intOf]; omega
        · -- operation 7
          go_simp
          refine (l1Copy_any _ _ _ 4 (cv k) _ (by omega) (by omega) (RC.out _ hS1)).mono ?_
          rintro e w2 ⟨b, cc, rfl, hlo0, hhi, hrow, hb2⟩
          have h2 := h1.trans hb2
          have hlo : wc.heap.size ≤ b := by have := h1.size; omega
          refine hK.out _ _ (h2.mod _) (fun hS2 => ?_)
          clear hK K hlo0 hb2
          try simp only [Act.put, List.setIfInBounds_toArray, List.set_cons_zero, List.set_cons_succ]
          have hbx : ¬ X2 b := fun hx => by have := (B.x2 b hx).2.1; omega
          refine wpAnyH_ready (rs := [1, 8]) (by kernel_rfl) (by simp) ?_
          refine AllReadyH.cons (o := { dst := some 28, op := Op.load 23 (Operand.tmp 27), type := 23, pos := _, after := #[{ on := 0, ground := Ground.data }], guard := none }) rfl (fun K hK => ?_) (AllReadyH.cons (o := { dst := some 35, op := Op.buildSlice 23 1 #[(0, Operand.tmp 34)], type := 23, pos := _, after := #[{ on := 7, ground := Ground.data }], guard := none }) rfl (fun K hK => ?_) AllReadyH.nil)
          · -- operation 1
            have mc := h2.cell p1
            go_simp
            refine hK.out _ _ hS2 (fun hS3 => ?_)
            clear hK K mc
            try simp only [Act.put, List.setIfInBounds_toArray, List.set_cons_zero, List.set_cons_succ]
            clear hS3
            refine wpAnyH_ready (rs := [8]) (by kernel_rfl) (by simp) ?_
            refine AllReadyH.cons (o := { dst := some 35, op := Op.buildSlice 23 1 #[(0, Operand.tmp 34)], type := 23, pos := _, after := #[{ on := 7, ground := Ground.data }], guard := none }) rfl (fun K hK => ?_) AllReadyH.nil
            · -- operation 8
              go_simp
              have hnew : (w2.alloc (.cells #[.slice (some ⟨b, 0, none⟩) 4 cc] 37)).cell? ⟨w2.heap.size, 0, none⟩ = some (.slice (some ⟨b, 0, none⟩) 4 cc) := by go_cell
              have hbw : Blw w2 (w2.alloc (.cells #[.slice (some ⟨b, 0, none⟩) 4 cc] 37)) := (Blw.refl _).alloc _
              refine hK.out _ _ ((h2.trans hbw).mod _) (fun hS3 => ?_)
              clear hK K
              try simp only [Act.put, List.setIfInBounds_toArray, List.set_cons_zero, List.set_cons_succ]
              revert hnew hbw hS3
              generalize w2.alloc (.cells #[.slice (some ⟨b, 0, none⟩) 4 cc] 37) = w3
              intro hnew hbw hS3
              generalize w2.heap.size = nb at hnew ⊢
              replace hrow := hrow.blw hbw
              replace hhi := Nat.lt_of_lt_of_le hhi hbw.size
              have h3 := h2.trans hbw
              clear hbw
              refine wpAnyH_ready (rs := [9]) (by kernel_rfl) (by simp) ?_
              refine AllReadyH.cons (o := { dst := some 36, op := Op.call { callee := Callee.builtin Builtin.append, args := #[Operand.tmp 28, Operand.tmp 35], argTypes := #[23, 23] }, type := 23, pos := _, after := #[{ on := 1, ground := Ground.data }, { on := 8, ground := Ground.data }, { on := 7, ground := Ground.chain }], guard := none }) rfl (fun K hK => ?_) AllReadyH.nil
              refine step_append_line rfl (.tmp 28) (.tmp 35) rfl B.b2 rfl ⟨nb, 0, none⟩ b cc rfl (by omega) (by omega) hbx h3 hnew hrow ?_
              intro g cap wN hN hm hg hgl
              have hSN : Mod (fun x => v2.ownBlock = some x ∨ x = M) wc wN := Mod.trans (h3.mod _) (hm.mono (fun x hx => Or.inl hx))
              refine hK.out _ _ hSN (fun hSm => ?_)
              clear hK K
              try simp only [Act.put, List.setIfInBounds_toArray, List.set_cons_zero, List.set_cons_succ]
              refine wpAnyH_take (i := 10) (oi := { dst := some 37, op := Op.fieldAddr 26 (Operand.tmp 3) 1, type := 0, pos := _, after := #[{ on := 0, ground := Ground.phase }, { on := 1, ground := Ground.phase }, { on := 2, ground := Ground.phase }, { on := 3, ground := Ground.phase }, { on := 4, ground := Ground.phase }, { on := 5, ground := Ground.phase }, { on := 6, ground := Ground.phase }, { on := 7, ground := Ground.phase }, { on := 8, ground := Ground.phase }, { on := 9, ground := Ground.phase }], guard := none }) (v := .pointer (some ⟨M, 1, none⟩)) rfl (by kernel_rfl) (by kernel_rfl) (by kernel_rfl) (fun _ _ _ h => h) (Or.inl ⟨by rfl, fun w' hS => by (try dsimp only at hS); go_simp⟩) hSm ?_
              simp only [Act.put, List.setIfInBounds_toArray, List.set_cons_zero, List.set_cons_succ]
              have QQ := build_q2 B h3 hm
              obtain ⟨qq0, qq1⟩ := QQ
              refine wpAnyH_ready (rs := [11]) (by kernel_rfl) (by simp) ?_
              refine AllReadyH.cons (o := { dst := none, op := Op.store 23 (Operand.tmp 37) (Operand.tmp 36), type := 0, pos := _, after := #[{ on := 10, ground := Ground.data }, { on := 9, ground := Ground.data }, { on := 9, ground := Ground.chain }, { on := 0, ground := Ground.phase }, { on := 1, ground := Ground.phase }, { on := 2, ground := Ground.phase }, { on := 3, ground := Ground.phase }, { on := 4, ground := Ground.phase }, { on := 5, ground := Ground.phase }, { on := 6, ground := Ground.phase }, { on := 7, ground := Ground.phase }, { on := 8, ground := Ground.phase }, { on := 9, ground := Ground.phase }], guard := none }) rfl (fun K hK => ?_) AllReadyH.nil
              go_simp
              refine hK.out _ _ (hSm.trans (Mod.setCell (X := fun x => v2.ownBlock = some x ∨ x = M) _ (p := ⟨M, 1, none⟩) (Or.inr rfl) _)) (fun hSe => ?_)
              clear hK K qq0 qq1 hSe hSm hSN
              refine wpAnyH_done (by kernel_rfl) ?_ _
              refine NoPanic.normal ?_
              have BN := build_second B h3 hlo hhi hN hm hg hgl
              clear hN hm hg hgl hnew hrow RA RB
              go_wp2
              go_roundw
              case rel => exact ⟨k + 1, _, _, _, _, _, _, _, _, by omega, by go_num, BN⟩
              case measure => simp [intOf]; omega
          · -- operation 8
            go_simp
            have hnew : (w2.alloc (.cells #[.slice (some ⟨b, 0, none⟩) 4 cc] 37)).cell? ⟨w2.heap.size, 0, none⟩ = some (.slice (some ⟨b, 0, none⟩) 4 cc) := by go_cell
            have hbw : Blw w2 (w2.alloc (.cells #[.slice (some ⟨b, 0, none⟩) 4 cc] 37)) := (Blw.refl _).alloc _
            refine hK.out _ _ ((h2.trans hbw).mod _) (fun hS3 => ?_)
            clear hK K
            try simp only [Act.put, List.setIfInBounds_toArray, List.set_cons_zero, List.set_cons_succ]
            revert hnew hbw hS3
            generalize w2.alloc (.cells #[.slice (some ⟨b, 0, none⟩) 4 cc] 37) = w3
            intro hnew hbw hS3
            generalize w2.heap.size = nb at hnew ⊢
            replace hrow := hrow.blw hbw
            replace hhi := Nat.lt_of_lt_of_le hhi hbw.size
            have h3 := h2.trans hbw
            clear hbw
            refine wpAnyH_ready (rs := [1]) (by kernel_rfl) (by simp) ?_
            refine AllReadyH.cons (o := { dst := some 28, op := Op.load 23 (Operand.tmp 27), type := 23, pos := _, after := #[{ on := 0, ground := Ground.data }], guard := none }) rfl (fun K hK => ?_) AllReadyH.nil
            · -- operation 1
              have mc := h3.cell p1
              go_simp
              refine hK.out _ _ hS3 (fun hS4 => ?_)
              clear hK K mc
              try simp only [Act.put, List.setIfInBounds_toArray, List.set_cons_zero, List.set_cons_succ]
              clear hS4
              refine wpAnyH_ready (rs := [9]) (by kernel_rfl) (by simp) ?_
              refine AllReadyH.cons (o := { dst := some 36, op := Op.call { callee := Callee.builtin Builtin.append, args := #[Operand.tmp 28, Operand.tmp 35], argTypes := #[23, 23] }, type := 23, pos := _, after := #[{ on := 1, ground := Ground.data }, { on := 8, ground := Ground.data }, { on := 7, ground := Ground.chain }], guard := none }) rfl (fun K hK => ?_) AllReadyH.nil
              refine step_append_line rfl (.tmp 28) (.tmp 35) rfl B.b2 rfl ⟨nb, 0, none⟩ b cc rfl (by omega) (by omega) hbx h3 hnew hrow ?_
              intro g cap wN hN hm hg hgl
              have hSN : Mod (fun x => v2.ownBlock = some x ∨ x = M) wc wN := Mod.trans (h3.mod _) (hm.mono (fun x hx => Or.inl hx))
              refine hK.out _ _ hSN (fun hSm => ?_)
              clear hK K
              try simp only [Act.put, List.setIfInBounds_toArray, List.set_cons_zero, List.set_cons_succ]
              refine wpAnyH_take (i := 10) (oi := { dst := some 37, op := Op.fieldAddr 26 (Operand.tmp 3) 1, type := 0, pos := _, after := #[{ on := 0, ground := Ground.phase }, { on := 1, ground := Ground.phase }, { on := 2, ground := Ground.phase }, { on := 3, ground := Ground.phase }, { on := 4, ground := Ground.phase }, { on := 5, ground := Ground.phase }, { on := 6, ground := Ground.phase }, { on := 7, ground := Ground.phase }, { on := 8, ground := Ground.phase }, { on := 9, ground := Ground.phase }], guard := none }) (v := .pointer (some ⟨M, 1, none⟩)) rfl (by kernel_rfl) (by kernel_rfl) (by kernel_rfl) (fun _ _ _ h => h) (Or.inl ⟨by rfl, fun w' hS => by (try dsimp only at hS); go_simp⟩) hSm ?_
              simp only [Act.put, List.setIfInBounds_toArray, List.set_cons_zero, List.set_cons_succ]
              have QQ := build_q2 B h3 hm
              obtain ⟨qq0, qq1⟩ := QQ
              refine wpAnyH_ready (rs := [11]) (by kernel_rfl) (by simp) ?_
              refine AllReadyH.cons (o := { dst := none, op := Op.store 23 (Operand.tmp 37) (Operand.tmp 36), type := 0, pos := _, after := #[{ on := 10, ground := Ground.data }, { on := 9, ground := Ground.data }, { on := 9, ground := Ground.chain }, { on := 0, ground := Ground.phase }, { on := 1, ground := Ground.phase }, { on := 2, ground := Ground.phase }, { on := 3, ground := Ground.phase }, { on := 4, ground := Ground.phase }, { on := 5, ground := Ground.phase }, { on := 6, ground := Ground.phase }, { on := 7, ground := Ground.phase }, { on := 8, ground := Ground.phase }, { on := 9, ground := Ground.phase }], guard := none }) rfl (fun K hK => ?_) AllReadyH.nil
              go_simp
              refine hK.out _ _ (hSm.trans (Mod.setCell (X := fun x => v2.ownBlock = some x ∨ x = M) _ (p := ⟨M, 1, none⟩) (Or.inr rfl) _)) (fun hSe => ?_)
              clear hK K qq0 qq1 hSe hSm hSN
              refine wpAnyH_done (by kernel_rfl) ?_ _
              refine NoPanic.normal ?_
              have BN := build_second B h3 hlo hhi hN hm hg hgl
              clear hN hm hg hgl hnew hrow RA RB
              go_wp2
              go_roundw
              case rel => exact ⟨k + 1, _, _, _, _, _, _, _, _, by omega, by go_num, BN⟩
              case measure => simp [intOf]; omega
    · obtain rfl : k = 12 := by omega
      have p0 := B.cell0
      have p1 := B.cell1
      have p2 := B.cell2
      have rX' := MK.res.blw B.blw
      have x0 : wr.cell? ⟨w.heap.size + 1, 0, none⟩ = some (.slice none 0 0) := rX'.cell (by omega)
      have x1 : wr.cell? ⟨w.heap.size + 1, 1, none⟩ = some (.slice none 0 0) := rX'.cell (by omega)
      have x2 : wr.cell? ⟨w.heap.size + 1, 2, none⟩ = some (.slice none 0 0) := rX'.cell (by omega)
      have f0 := rX'.frozen 0
      have f1 := rX'.frozen 1
      have f2 := rX'.frozen 2
      obtain ⟨a1, d1, e1⟩ := bld_shape B.b1
      obtain ⟨a2, d2, e2⟩ := bld_shape B.b2
      subst e1 e2
      clear HS HC
      go_wp2
      have hm3 : Mod (fun x => x = w.heap.size + 1) wr (((wr.setCell ⟨w.heap.size + 1, 0, none⟩ (.slice a1 12 d1)).setCell ⟨w.heap.size + 1, 1, none⟩ (.slice a2 12 d2)).setCell ⟨w.heap.size + 1, 2, none⟩ (.slice (some ⟨g, 0, none⟩) 12 cap)) :=
        ((Mod.setCell (X := fun x => x = w.heap.size + 1) wr (p := ⟨w.heap.size + 1, 0, none⟩) rfl _).trans (Mod.setCell (X := fun x => x = w.heap.size + 1) _ (p := ⟨w.heap.size + 1, 1, none⟩) rfl _)).trans (Mod.setCell (X := fun x => x = w.heap.size + 1) _ (p := ⟨w.heap.size + 1, 2, none⟩) rfl _)
      refine bodyPost_ret (v := .agg #[.slice a1 12 d1, .slice a2 12 d2, .slice (some ⟨g, 0, none⟩) 12 cap]) (by simp [results, Try.results87, go_sem, x0, x1, x2]) rfl ⟨⟨a1, a2, some ⟨g, 0, none⟩, d1, d2, cap⟩, rfl, own_end MK B hm3, Mod.blw (MK.blw.trans B.blw) hm3 (fun i hi => by omega)⟩
end Go.Proofs.Ytnbcjdoohmjghaa
/- 'spec.Load', 'impl.Load', and the law on them. -/
namespace Go.Proofs.Ytnbcjdoohmjghaa
open Go.RowKit
set_option linter.unusedSimpArgs false
/-- What Load answers. -/
def ldOut (M : MD) (at_ x : Int) (b : Bool) : Prop := (M.Good ∧ ∃ n : Nat, at_ = n ∧ n < 48 ∧ x = M.v2 (n / 4) (n % 4) ∧ b = true) ∨ (¬ (M.Good ∧ 0 ≤ at_ ∧ at_ ≤ 47) ∧ x = 0 ∧ b = false)
theorem ldOut_same {M : MD} {at_ x y : Int} {b c : Bool} (h : ldOut M at_ x b) (k : ldOut M at_ y c) : x = y ∧ b = c := by
  rcases h with ⟨g, n, rfl, hn, rfl, rfl⟩ | ⟨g, rfl, rfl⟩
  · rcases k with ⟨_, n', e, hn', rfl, rfl⟩ | ⟨g', rfl, rfl⟩
    · obtain rfl : n = n' := by omega
      exact ⟨rfl, rfl⟩
    · exact absurd ⟨g, by omega, by omega⟩ g'
  · rcases k with ⟨g', n', e, hn', rfl, rfl⟩ | ⟨g', rfl, rfl⟩
    · exact absurd ⟨g', by omega, by omega⟩ g
    · exact ⟨rfl, rfl⟩
set_option maxHeartbeats 400000 in
theorem l1At_yes (n : Int) (w : World) (h1 : 0 ≤ n) (h2 : n ≤ 47) : Calls Try.prog 97 #[.int .i64 n] w fun e w' => e = .returned (.bool true) ∧ w' = w := by
  go_enter Try.func97, Try.ntmps97
  go_wp2_with fail
  refine (l1In_yes _ _ _ _ h1 h2).mono ?_
  rintro e w' ⟨rfl, rfl⟩
  go_wp2
  go_ret
  exact ⟨rfl, rfl⟩
set_option maxHeartbeats 400000 in
theorem l1At_no (n : Int) (w : World) (h : ¬ (0 ≤ n ∧ n ≤ 47)) : Calls Try.prog 97 #[.int .i64 n] w fun e w' => e = .returned (.bool false) ∧ w' = w := by
  have HH : Hid (¬ (0 ≤ n ∧ n ≤ 47)) := h
  clear h
  go_enter Try.func97, Try.ntmps97
  go_wp2_with fail
  refine (l1In_no _ _ _ _ HH.out).mono ?_
  rintro e w' ⟨rfl, rfl⟩
  go_wp2
  go_ret
  exact ⟨rfl, rfl⟩
set_option maxHeartbeats 400000 in
theorem isPlace_yes (n : Int) (w : World) (h1 : 0 ≤ n) (h2 : n ≤ 47) : Calls Try.prog 94 #[.int .i64 n] w fun e w' => e = .returned (.bool true) ∧ w' = w := by
  have hd : decide (n < 48) = true := by simp; omega
  go_enter Try.func94, Try.ntmps94
  go_wp2
  go_ret
  exact ⟨rfl, rfl⟩
set_option maxHeartbeats 400000 in
theorem isPlace_no (n : Int) (w : World) (h : ¬ (0 ≤ n ∧ n ≤ 47)) : Calls Try.prog 94 #[.int .i64 n] w fun e w' => e = .returned (.bool false) ∧ w' = w := by
  by_cases h1 : 0 ≤ n
  · have h2 : ¬ n < 48 := fun h3 => h ⟨h1, by omega⟩
    clear h
    go_enter Try.func94, Try.ntmps94
    go_wp2
    go_ret
    exact ⟨rfl, rfl⟩
  · clear h
    have hd : decide (0 ≤ n) = false := by simpa using h1
    go_enter Try.func94, Try.ntmps94
    go_wp2
    go_ret
    exact ⟨rfl, rfl⟩
set_option maxHeartbeats 800000 in
theorem l1Load_any (m : MV) (M : MD) (Y : Nat → Prop) (w : World) (n : Nat) (hn : n < 48) (g : M.Good) (h : MemAt Y w m M) :
    Calls Try.prog 103 #[m.val M, .int .i64 n] w fun e w' => e = .returned (.int .i64 (M.v2 (n / 4) (n % 4))) ∧ Blw w w' := by
  obtain ⟨s, c, d⟩ := h
  obtain ⟨a1, a2, a3, c1, c2, c3⟩ := m
  obtain ⟨n1, n2, n3, l1, l2, v1, v2, dd⟩ := M
  obtain ⟨q1, q2, q3, ok⟩ := g
  simp only at q1 q2 q3
  subst q1 q2 q3
  simp only [MV.val] at *
  obtain ⟨b2, o2, e2, ce2, rfl, -, g2, k2⟩ := c.2 (n / 4) (by show n / 4 < 12; omega)
  have hl : l2 (n / 4) = 4 := (ok (n / 4) (by omega)).b.1
  rw [hl] at g2 k2
  obtain ⟨b3, o3, rfl, -, g3⟩ := k2.2 (n % 4) (by omega)
  clear s c d ok k2 hl
  have hb0 : Blw w (w.alloc (.cells #[.slice a1 12 c1, .slice (some ⟨b2, o2, none⟩) 12 c2, .slice a3 12 c3] 26)) := (Blw.refl _).alloc _
  replace g2 := hb0.cell g2
  replace g3 := hb0.cell g3
  have i1 : ((n : Int) / 4) < 12 := by omega
  have i2 : ((n : Int) % 4) < 4 := by omega
  go_enter Try.func103, Try.ntmps103
  go_wp2
  go_ret
  exact ⟨rfl, hb0⟩
set_option maxHeartbeats 800000 in
theorem wordAt_any (B : Nat) (s c : Nat → Nat → Int) (d : Nat → Bool) (n : Nat) (w : World) (hn : n < 48) (r : Row w B 108 (hcell s c d)) :
    Calls Try.prog 99 #[.pointer (some ⟨B, 0, none⟩), .int .i64 n] w fun e w' => e = .returned (.int .i64 (c (n / 4) (n % 4))) ∧ w' = w := by
  have g := r.cell (i := 48 + (n / 4 * 4 + n % 4)) (by omega)
  rw [hcell_c (by omega) (by omega)] at g
  have g' : w.cell? ⟨B, 48 + n / 4 * 4 + n % 4, none⟩ = some (.int .i64 (c (n / 4) (n % 4))) := by rw [Nat.add_assoc]; exact g
  have i1 : ((n : Int) / 4) < 12 := by omega
  have i2 : ((n : Int) % 4) < 4 := by omega
  clear g r
  go_enter Try.func99, Try.ntmps99
  go_wp2
  go_ret
  exact ⟨rfl, rfl⟩
theorem held_row {w : World} {B : Nat} {cs : Array Value} {f g : Nat → Value} (h : Row w B 108 (fun i => if 0 ≤ i ∧ i < 0 + cs.size then g (i - 0) else f i)) (hl : cs.size = 108) : Row w B 108 g :=
  h.congr fun i hi => by rw [if_pos ⟨Nat.zero_le _, by rw [hl]; omega⟩, Nat.sub_zero]
set_option maxHeartbeats 800000 in
theorem specLoad_any (m : MV) (M : MD) (Y : Nat → Prop) (w : World) (at_ : Int) (h : MemAt Y w m M) :
    Calls Try.prog 41 #[m.val M, .int .i64 at_] w fun e w' => ∃ x b, e = .returned (.tuple #[.int .i64 x, .bool b]) ∧ ldOut M at_ x b ∧ Blw w w' := by
  go_enter Try.func41, Try.ntmps41
  go_wp2_with fail
  have hb0 : Blw w (w.alloc (.cells #[.slice m.a1 M.n1 m.c1, .slice m.a2 M.n2 m.c2, .slice m.a3 M.n3 m.c3] 26)) := (Blw.refl _).alloc _
  have rA := box3 w (.slice m.a1 M.n1 m.c1) (.slice m.a2 M.n2 m.c2) (.slice m.a3 M.n3 m.c3) 26
  refine (goodS_any m M Y _ (h.blw hb0)).mono ?_
  rintro e w1 ⟨b, rfl, hgd, hb1⟩
  replace rA := rA.blw hb1
  replace hb1 := hb0.trans hb1
  replace h := h.blw hb1
  clear hb0
  have HG : Hid (b = true ↔ M.Good) := hgd
  clear hgd
  cases b
  · have NG : Hid (¬ M.Good) := fun g => absurd (HG.out.2 g) (by decide)
    clear HG rA h
    go_wp2
    go_ret2
    exact ⟨0, false, rfl, Or.inr ⟨fun g => NG.out g.1, rfl, rfl⟩, hb1⟩
  · have GD : Hid M.Good := HG.out.1 rfl
    clear HG
    by_cases hat : 0 ≤ at_ ∧ at_ ≤ 47
    · obtain ⟨n, rfl⟩ := Int.eq_ofNat_of_zero_le hat.1
      have hn : n < 48 := by omega
      clear hat
      obtain ⟨p0, p1, p2⟩ := get3 rA
      go_wp2_with fail
      refine (l1At_yes _ _ (by omega) (by omega)).mono ?_
      rintro e w' ⟨rfl, rfl⟩
      go_wp2_with fail
      refine (l1Load_any m M Y _ n hn GD.out h).mono ?_
      rintro e w2 ⟨rfl, hb2⟩
      clear p0 p1 p2 rA
      go_wp2
      go_ret2
      exact ⟨_, true, rfl, Or.inl ⟨GD.out, n, rfl, hn, rfl, rfl⟩, hb1.trans hb2⟩
    · have HN : Hid (¬ (0 ≤ at_ ∧ at_ ≤ 47)) := hat
      clear hat rA h
      go_wp2_with fail
      refine (l1At_no _ _ HN.out).mono ?_
      rintro e w' ⟨rfl, rfl⟩
      go_wp2
      go_ret2
      exact ⟨0, false, rfl, Or.inr ⟨fun g => HN.out g.2, rfl, rfl⟩, hb1⟩
set_option maxRecDepth 10000 in
set_option maxHeartbeats 1600000 in
theorem implLoad_any (m : MV) (M : MD) (Y : Nat → Prop) (w : World) (at_ : Int) (h : MemAt Y w m M) :
    Calls Try.prog 33 #[m.val M, .int .i64 at_] w fun e w' => ∃ x b, e = .returned (.tuple #[.int .i64 x, .bool b]) ∧ ldOut M at_ x b ∧ Blw w w' := by
  go_enter Try.func33, Try.ntmps33
  go_wp2_with fail
  have hb0 : Blw w (w.alloc (.cells #[.slice m.a1 M.n1 m.c1, .slice m.a2 M.n2 m.c2, .slice m.a3 M.n3 m.c3] 26)) := (Blw.refl _).alloc _
  refine (holdMemory_any m M Y _ (h.blw hb0)).mono ?_
  rintro e w1 ⟨hr, hb1⟩
  replace hb1 := hb0.trans hb1
  have r79 := row79 w1
  have zw := hb1.size
  clear h hb0
  rcases hr with ⟨good, cs, z1, z2, rfl⟩ | ⟨bad, rfl⟩
  · have hi : (Try.prog.info? 98).map (·.size) = some cs.size := by rw [z1]; exact info79
    have one := one_cells' z1 z2
    have GD : Hid M.Good := good
    clear good
    by_cases hat : 0 ≤ at_ ∧ at_ ≤ 47
    · obtain ⟨n, rfl⟩ := Int.eq_ofNat_of_zero_le hat.1
      have hn : n < 48 := by omega
      clear hat
      go_wp2_with (first | (refine wpList_store_row rfl 98 (.tmp 6) (.tmp 11) rfl w1.heap.size 0 cs rfl rfl 108 _ (hcell M.v1 M.v2 M.d) r79 (by omega) hi one (fun j hj => z2 j (by omega)) ?_; intro wz qz1 qz2 qz3) | (go_at_call 94; refine (isPlace_yes _ _ (by omega) (by omega)).mono ?_; rintro e w' ⟨rfl, rfl⟩) | (go_at_call 99; refine (wordAt_any _ _ _ _ n _ hn (held_row (by assumption) z1)).mono ?_; rintro e w' ⟨rfl, rfl⟩))
      go_ret2
      exact ⟨_, true, rfl, Or.inl ⟨GD.out, n, rfl, hn, rfl, rfl⟩, Mod.blw (hb1.alloc _) (by assumption) (fun i hi => by omega)⟩
    · have HN : Hid (¬ (0 ≤ at_ ∧ at_ ≤ 47)) := hat
      clear hat
      go_wp2_with (first | (refine wpList_store_row rfl 98 (.tmp 6) (.tmp 11) rfl w1.heap.size 0 cs rfl rfl 108 _ (hcell M.v1 M.v2 M.d) r79 (by omega) hi one (fun j hj => z2 j (by omega)) ?_; intro wz qz1 qz2 qz3) | (go_at_call 94; refine (isPlace_no _ _ HN.out).mono ?_; rintro e w' ⟨rfl, rfl⟩))
      go_ret2
      exact ⟨0, false, rfl, Or.inr ⟨fun g => HN.out g.2, rfl, rfl⟩, Mod.blw (hb1.alloc _) (by assumption) (fun i hi => by omega)⟩
  · have GD : Hid (¬ M.Good) := bad
    clear bad
    go_wp2_with (refine wpList_store_row rfl 98 (.tmp 6) (.tmp 11) rfl w1.heap.size 0 Try.zeroCells98 rfl rfl 108 _ (hcell zeros zeros (fun _ => false)) r79 (by rw [size79]; omega) (by rw [size79]; exact info79) one79 cell79 ?_; intro wz qz1 qz2 qz3)
    go_ret2
    exact ⟨0, false, rfl, Or.inr ⟨fun g => GD.out g.1, rfl, rfl⟩, Mod.blw (hb1.alloc _) (by assumption) (fun i hi => by omega)⟩
end Go.Proofs.Ytnbcjdoohmjghaa
/- A word that is stored: in owned memory, and in a memory held as a value. -/
namespace Go.Proofs.Ytnbcjdoohmjghaa
open Go.RowKit
set_option linter.unusedSimpArgs false
/-- The zero answer. -/
def MZ : MD := ⟨0, 0, 0, fun _ => 0, fun _ => 0, fun _ _ => 0, fun _ _ => 0, fun _ => false⟩
def mz : MV := ⟨none, none, none, 0, 0, 0⟩
theorem own_zero (X : Nat → Prop) (w : World) : MemOwn X w mz MZ :=
  ⟨fun _ => False, fun _ => False, fun _ => False, fun _ h => h.elim, fun _ h => h.elim, fun _ h => h.elim, ⟨by show 0 ≤ _; omega, fun h => absurd h (Nat.lt_irrefl 0)⟩, ⟨by show 0 ≤ _; omega, fun h => absurd h (Nat.lt_irrefl 0)⟩, ⟨by show 0 ≤ _; omega, fun h => absurd h (Nat.lt_irrefl 0)⟩⟩
theorem own_out {X : Nat → Prop} {w w2 w3 : World} {m : MV} {M : MD} {R : Nat} (own : MemOwn X w2 m M) (hx : ∀ b, X b → R < b ∧ b < w2.heap.size) (hm : Mod (fun x => x = R) w2 w3) (hR : w.heap.size ≤ R) :
    MemOwn (fun b => w.heap.size ≤ b ∧ b < w3.heap.size) w3 m M :=
  (own.mod hm (fun b hb e => by have := hx b hb; omega)).mono (fun b hb => by have := hx b hb; have := hm.size; exact ⟨by omega, by omega⟩)
theorem mod_set3 (w : World) (R : Nat) (a b c : Value) : Mod (fun x => x = R) w (((w.setCell ⟨R, 0, none⟩ a).setCell ⟨R, 1, none⟩ b).setCell ⟨R, 2, none⟩ c) :=
  ((Mod.setCell (X := fun x => x = R) w (p := ⟨R, 0, none⟩) rfl _).trans (Mod.setCell (X := fun x => x = R) _ (p := ⟨R, 1, none⟩) rfl _)).trans (Mod.setCell (X := fun x => x = R) _ (p := ⟨R, 2, none⟩) rfl _)
/-- One word of the cache, and its mark. -/
def stC (c : Nat → Nat → Int) (n : Nat) (x : Int) : Nat → Nat → Int := fun i j => if i = n / 4 ∧ j = n % 4 then x else c i j
def stD (d : Nat → Bool) (n : Nat) : Nat → Bool := fun i => if i = n / 4 then true else d i
theorem own_stored {X X1 X2 X3 : Nat → Prop} {w1 : World} {a1 : Option Addr} {sv cv : Nat → Nat → Int} {d : Nat → Bool} {b2 b3 c1 c2 c3 n : Nat} {F cc : Nat → Nat} (x : Int) (hn : n < 48)
    (h1 : ∀ b, X1 b → X b ∧ ¬ X2 b ∧ ¬ X3 b) (h2 : ∀ b, X2 b → X b ∧ ¬ X3 b) (h3 : ∀ b, X3 b → X b) (s : LinesOwn X1 w1 a1 12 (fun _ => 4) sv) (xb2 : X2 b2) (r2 : Row w1 b2 12 (fun i => .slice (some ⟨F i, 0, none⟩) 4 (cc i)))
    (hl : ∀ i, i < 12 → 4 ≤ 9223372036854775807 ∧ X2 (F i) ∧ F i ≠ b2 ∧ Row w1 (F i) 4 (fun t => .int .i64 (cv i t))) (hd : ∀ i j, i < 12 → j < 12 → i ≠ j → F i ≠ F j) (xb3 : X3 b3) (r3 : Row w1 b3 12 (fun i => .bool (d i))) :
    MemOwn X ((w1.setCell ⟨F (n / 4), n % 4, none⟩ (.int .i64 x)).setCell ⟨b3, n / 4, none⟩ (.bool true)) ⟨a1, some ⟨b2, 0, none⟩, some ⟨b3, 0, none⟩, c1, c2, c3⟩ (MD.full sv (stC cv n x) (stD d n)) := by
  have hq : n / 4 < 12 := by omega
  have hr : n % 4 < 4 := by omega
  obtain ⟨-, xF, hFb, rF⟩ := hl (n / 4) hq
  have mA := Mod.setCell (X := fun x => x = F (n / 4)) w1 (p := ⟨F (n / 4), n % 4, none⟩) rfl (.int .i64 x)
  have mB := Mod.setCell (X := fun x => x = b3) (w1.setCell ⟨F (n / 4), n % 4, none⟩ (.int .i64 x)) (p := ⟨b3, n / 4, none⟩) rfl (.bool true)
  have e3 : ∀ b, X2 b → ¬ b = b3 := fun b hb e => (h2 b hb).2 (e ▸ xb3)
  refine ⟨X1, X2, X3, h1, h2, h3, (s.mod mA (fun b hb e => (h1 b hb).2.1 (e ▸ xF))).mod mB (fun b hb e => (h1 b hb).2.2 (e ▸ xb3)), ⟨by show 12 ≤ _; omega, fun _ => ⟨b2, F, cc, xb2, rfl, (r2.mod mA (fun e => hFb e.symm)).mod mB (e3 _ xb2), fun i hi => ?_, hd⟩⟩, ⟨by show 12 ≤ _; omega, fun _ => ⟨b3, xb3, rfl, ?_⟩⟩⟩
  · obtain ⟨-, xi, hib, ri⟩ := hl i hi
    refine ⟨by show 4 ≤ _; omega, xi, hib, ?_⟩
    by_cases e : i = n / 4
    · subst e
      exact ((ri.set (n % 4) (.int .i64 x)).mod mB (e3 _ xi)).congr (fun t ht => by
        show (if t = n % 4 then Value.int .i64 x else .int .i64 (cv (n / 4) t)) = .int .i64 (stC cv n x (n / 4) t)
        unfold stC
        by_cases ht' : t = n % 4 <;> simp [ht'])
    · exact ((ri.mod mA (hd i (n / 4) hi hq e)).mod mB (e3 _ xi)).congr (fun t ht => by simp [stC, e, MD.full])
  · exact ((r3.mod mA (fun e => e3 _ xF e.symm)).set (n / 4) (.bool true)).congr (fun t ht => by
      show (if t = n / 4 then Value.bool true else .bool (d t)) = .bool (stD d n t)
      unfold stD
      by_cases ht' : t = n / 4 <;> simp [ht'])
set_option maxHeartbeats 800000 in
theorem l1Store_any (m : MV) (sv cv : Nat → Nat → Int) (d : Nat → Bool) (X : Nat → Prop) (w : World) (n : Nat) (x : Int) (hn : n < 48) (h : MemOwn X w m (MD.full sv cv d)) (hX : ∀ b, X b → b < w.heap.size) :
    Calls Try.prog 98 #[m.val (MD.full sv cv d), .int .i64 n, .int .i64 x] w fun e w' => (∃ v, e = .returned v) ∧ MemOwn X w' m (MD.full sv (stC cv n x) (stD d n)) ∧ Mod X w w' := by
  obtain ⟨X1, X2, X3, h1, h2, h3, s, c, d'⟩ := h.ex
  obtain ⟨a1, a2, a3, c1, c2, c3⟩ := m
  clear h
  simp only [MV.val, MD.full] at *
  obtain ⟨b2, F, cc, xb2, rfl, r2, hl, hd⟩ := c.2 (by omega)
  obtain ⟨b3, xb3, rfl, r3⟩ := d'.2 (by omega)
  clear c d'
  have hb0 : Blw w (w.alloc (.cells #[.slice a1 12 c1, .slice (some ⟨b2, 0, none⟩) 12 c2, .slice (some ⟨b3, 0, none⟩) 12 c3] 26)) := (Blw.refl _).alloc _
  have rB := box3 w (.slice a1 12 c1) (.slice (some ⟨b2, 0, none⟩) 12 c2) (.slice (some ⟨b3, 0, none⟩) 12 c3) 26
  replace s := s.blw hb0
  replace r2 := r2.blw hb0
  replace r3 := r3.blw hb0
  replace hl : ∀ i, i < 12 → 4 ≤ 9223372036854775807 ∧ X2 (F i) ∧ F i ≠ b2 ∧ Row _ (F i) 4 (fun t => .int .i64 (cv i t)) := fun i hi => let ⟨g1, g2, g3, g4⟩ := hl i hi; ⟨g1, g2, g3, g4.blw hb0⟩
  have hs := fun c1 c2 c3 => own_stored (c1 := c1) (c2 := c2) (c3 := c3) x hn h1 h2 h3 s xb2 r2 hl hd xb3 r3
  obtain ⟨-, xF, hFb, rF⟩ := hl (n / 4) (by omega)
  have bF := hX _ (h2 _ xF).1
  have b3lt := hX _ (h3 _ xb3)
  have q1 := r2.cell (i := n / 4) (by omega)
  have q2 := rF.cell (i := n % 4) (by omega)
  have q2f := rF.frozen (n % 4)
  have rB' := rB.setOther (a := ⟨F (n / 4), n % 4, none⟩) (by show w.heap.size ≠ F (n / 4); omega) (.int .i64 x)
  have p2 := (get3 rB').2.2
  have r3' := r3.setOther (a := ⟨F (n / 4), n % 4, none⟩) (by show b3 ≠ F (n / 4); exact fun e => (h2 _ xF).2 (e ▸ xb3)) (.int .i64 x)
  have q3 := r3'.cell (i := n / 4) (by omega)
  have q3f := r3'.frozen (n / 4)
  have hm : Mod X w ((((w.alloc (.cells #[.slice a1 12 c1, .slice (some ⟨b2, 0, none⟩) 12 c2, .slice (some ⟨b3, 0, none⟩) 12 c3] 26)).setCell ⟨F (n / 4), n % 4, none⟩ (.int .i64 x))).setCell ⟨b3, n / 4, none⟩ (.bool true)) :=
    ((hb0.mod X).trans (Mod.setCell (X := X) _ (p := ⟨F (n / 4), n % 4, none⟩) (h2 _ xF).1 _)).trans (Mod.setCell (X := X) _ (p := ⟨b3, n / 4, none⟩) (h3 _ xb3) _)
  have HS : Hid _ := hs c1 c2 c3
  have i1 : ((n : Int) / 4) < 12 := by omega
  have i2 : ((n : Int) % 4) < 4 := by omega
  clear hs rB rB' r2 r3 r3' rF hl hd hb0 s h1 h2 h3 hX bF b3lt
  go_enter Try.func98, Try.ntmps98
  go_wp2
  refine bodyPost_end (results_none rfl _ _ _) rfl ?_
  exact ⟨⟨_, rfl⟩, HS.out, hm⟩
theorem hcell_store {s c : Nat → Nat → Int} {d : Nat → Bool} {n : Nat} {x : Int} (hn : n < 48) (j : Nat) (hj : j < 108) :
    (if j = 96 + n / 4 then Value.bool true else if j = 48 + n / 4 * 4 + n % 4 then .int .i64 x else hcell s c d j) = hcell s (stC c n x) (stD d n) j := by
  unfold hcell
  by_cases h1 : j < 48
  · rw [if_neg (by omega), if_neg (by omega), if_pos h1, if_pos h1]
  · rw [if_neg h1, if_neg h1]
    by_cases h2 : j < 96
    · rw [if_neg (by omega), if_pos h2, if_pos h2]
      by_cases h3 : j = 48 + n / 4 * 4 + n % 4
      · rw [if_pos h3]
        unfold stC
        rw [if_pos (by omega)]
      · rw [if_neg h3]
        unfold stC
        rw [if_neg (by omega)]
    · rw [if_neg h2, if_neg h2]
      by_cases h3 : j = 96 + n / 4
      · rw [if_pos h3]
        unfold stD
        rw [if_pos (by omega)]
      · rw [if_neg h3, if_neg (by omega)]
        unfold stD
        rw [if_neg (by omega)]
set_option maxHeartbeats 800000 in
theorem storeWord_any (B : Nat) (s c : Nat → Nat → Int) (d : Nat → Bool) (n : Nat) (x : Int) (w : World) (hn : n < 48) (r : Row w B 108 (hcell s c d)) :
    Calls Try.prog 96 #[.pointer (some ⟨B, 0, none⟩), .int .i64 n, .int .i64 x] w fun e w' => (∃ v, e = .returned v) ∧ Row w' B 108 (hcell s (stC c n x) (stD d n)) ∧ Mod (fun b => b = B) w w' := by
  have g := r.cell (i := 48 + n / 4 * 4 + n % 4) (by omega)
  have gf := r.frozen (48 + n / 4 * 4 + n % 4)
  have r' := r.set (48 + n / 4 * 4 + n % 4) (.int .i64 x)
  have k := r'.cell (i := 96 + n / 4) (by omega)
  have kf := r'.frozen (96 + n / 4)
  have R : Hid (Row _ B 108 (hcell s (stC c n x) (stD d n))) := (r'.set (96 + n / 4) (.bool true)).congr (fun j hj => hcell_store hn j hj)
  have hm : Mod (fun b => b = B) w ((w.setCell ⟨B, 48 + n / 4 * 4 + n % 4, none⟩ (.int .i64 x)).setCell ⟨B, 96 + n / 4, none⟩ (.bool true)) :=
    (Mod.setCell (X := fun b => b = B) _ (p := ⟨B, 48 + n / 4 * 4 + n % 4, none⟩) rfl _).trans (Mod.setCell (X := fun b => b = B) _ (p := ⟨B, 96 + n / 4, none⟩) rfl _)
  have i1 : ((n : Int) / 4) < 12 := by omega
  have i2 : ((n : Int) % 4) < 4 := by omega
  clear r r'
  go_enter Try.func96, Try.ntmps96
  go_wp2
  refine bodyPost_end (results_none rfl _ _ _) rfl ?_
  exact ⟨⟨_, rfl⟩, R.out, hm⟩
end Go.Proofs.Ytnbcjdoohmjghaa
/- 'spec.Store' and 'impl.Store'. -/
namespace Go.Proofs.Ytnbcjdoohmjghaa
open Go.RowKit
set_option linter.unusedSimpArgs false
/-- A function of a memory and true: what it answers, in new memory. -/
abbrev Gives (out : MD → Bool → Prop) (w : World) (e : Ending) (w' : World) : Prop :=
  ∃ (m : MV) (M : MD) (b : Bool), e = .returned (.tuple #[m.val M, .bool b]) ∧ out M b ∧ MemOwn (fun b => w.heap.size ≤ b ∧ b < w'.heap.size) w' m M ∧ Blw w w'
/-- What Store answers. -/
def stOut (M : MD) (at_ x : Int) (M' : MD) (b : Bool) : Prop :=
  (M.Good ∧ ∃ n : Nat, at_ = n ∧ n < 48 ∧ (0 ≤ x ∧ x ≤ 65535) ∧ M' = MD.full M.v1 (stC M.v2 n x) (stD M.d n) ∧ b = true) ∨ (¬ (M.Good ∧ (0 ≤ at_ ∧ at_ ≤ 47) ∧ (0 ≤ x ∧ x ≤ 65535)) ∧ M' = MZ ∧ b = false)
theorem total_full (s c : Nat → Nat → Int) (d : Nat → Bool) : (MD.full s c d).total = 108 := by rfl
theorem total_zero : MZ.total = 0 := by rfl
theorem stOut_same {M M1 M2 : MD} {at_ x : Int} {b c : Bool} (h : stOut M at_ x M1 b) (k : stOut M at_ x M2 c) : M1 = M2 ∧ b = c := by
  rcases h with ⟨g, n, rfl, hn, hx, rfl, rfl⟩ | ⟨g, rfl, rfl⟩
  · rcases k with ⟨_, n', e, hn', hx', rfl, rfl⟩ | ⟨g', rfl, rfl⟩
    · obtain rfl : n = n' := by omega
      exact ⟨rfl, rfl⟩
    · exact absurd ⟨g, by omega, hx⟩ g'
  · rcases k with ⟨g', n', e, hn', hx, rfl, rfl⟩ | ⟨g', rfl, rfl⟩
    · exact absurd ⟨g', by omega, hx⟩ g
    · exact ⟨rfl, rfl⟩
theorem stOut_total {M M1 : MD} {at_ x : Int} {b : Bool} (h : stOut M at_ x M1 b) : M1.total ≤ 108 := by
  rcases h with ⟨g, n, rfl, hn, hx, rfl, rfl⟩ | ⟨g, rfl, rfl⟩
  · rw [total_full]; omega
  · rw [total_zero]; omega
theorem res_row (w : World) (a b c : Value) : Row ((w.alloc (.cells #[a, b, c] 26)).alloc (.cells #[.slice none 0 0, .slice none 0 0, .slice none 0 0] 26)) (w.heap.size + 1) 3 (fun _ => .slice none 0 0) := by
  have := row_box (w.alloc (.cells #[a, b, c] 26)) 26
  rw [World.size_alloc] at this
  exact this
theorem res6 {w1 : World} {R : Nat} (r : Row w1 R 3 (fun _ => .slice none 0 0)) : (w1.cell? ⟨R, 0, none⟩ = some (.slice none 0 0) ∧ w1.cell? ⟨R, 1, none⟩ = some (.slice none 0 0) ∧ w1.cell? ⟨R, 2, none⟩ = some (.slice none 0 0)) ∧ (w1.frozen? ⟨R, 0, none⟩ = false ∧ w1.frozen? ⟨R, 1, none⟩ = false ∧ w1.frozen? ⟨R, 2, none⟩ = false) :=
  ⟨⟨r.cell (i := 0) (by omega), r.cell (i := 1) (by omega), r.cell (i := 2) (by omega)⟩, r.frozen 0, r.frozen 1, r.frozen 2⟩
/-- The zero answer, in the result's box. -/
theorem zero_gives {out : MD → Bool → Prop} {w w1 : World} (ho : out MZ false) (hb : Blw w w1) :
    Gives out w (.returned (.tuple #[.agg #[.slice none 0 0, .slice none 0 0, .slice none 0 0], .bool false])) (((w1.setCell ⟨w.heap.size + 1, 0, none⟩ (.slice none 0 0)).setCell ⟨w.heap.size + 1, 1, none⟩ (.slice none 0 0)).setCell ⟨w.heap.size + 1, 2, none⟩ (.slice none 0 0)) :=
  ⟨mz, MZ, false, rfl, ho, own_zero _ _, Mod.blw hb (mod_set3 w1 _ _ _ _) (fun i hi => by omega)⟩
theorem some_gives {out : MD → Bool → Prop} {w w1 : World} {X : Nat → Prop} {m : MV} {M : MD} (ho : out M true) (hb : Blw w w1) (own : MemOwn X w1 m M) (hx : ∀ b, X b → w.heap.size + 1 < b ∧ b < w1.heap.size) {a b c : Value} (ha : Value.agg #[a, b, c] = m.val M) :
    Gives out w (.returned (.tuple #[.agg #[a, b, c], .bool true])) (((w1.setCell ⟨w.heap.size + 1, 0, none⟩ a).setCell ⟨w.heap.size + 1, 1, none⟩ b).setCell ⟨w.heap.size + 1, 2, none⟩ c) :=
  ⟨m, M, true, by rw [ha], ho, own_out own hx (mod_set3 w1 _ _ _ _) (by omega), Mod.blw hb (mod_set3 w1 _ _ _ _) (fun i hi => by omega)⟩
set_option maxHeartbeats 1600000 in
theorem specStore_any (m : MV) (M : MD) (Y : Nat → Prop) (w : World) (at_ x : Int) (h : MemAt Y w m M) :
    Calls Try.prog 32 #[m.val M, .int .i64 at_, .int .i64 x] w (Gives (stOut M at_ x) w) := by
  go_enter Try.func32, Try.ntmps32
  go_wp2_with fail
  have hb0 : Blw w ((w.alloc (.cells #[.slice m.a1 M.n1 m.c1, .slice m.a2 M.n2 m.c2, .slice m.a3 M.n3 m.c3] 26)).alloc (.cells #[.slice none 0 0, .slice none 0 0, .slice none 0 0] 26)) := ((Blw.refl _).alloc _).alloc _
  have rA := (box3 w (.slice m.a1 M.n1 m.c1) (.slice m.a2 M.n2 m.c2) (.slice m.a3 M.n3 m.c3) 26).blw ((Blw.refl _).alloc (.cells #[.slice none 0 0, .slice none 0 0, .slice none 0 0] 26))
  have rR := res_row w (.slice m.a1 M.n1 m.c1) (.slice m.a2 M.n2 m.c2) (.slice m.a3 M.n3 m.c3)
  refine (goodS_any m M Y _ (h.blw hb0)).mono ?_
  rintro e w1 ⟨b, rfl, hgd, hb1⟩
  replace rA := rA.blw hb1
  replace rR := rR.blw hb1
  replace hb1 := hb0.trans hb1
  replace h := h.blw hb1
  clear hb0
  have HG : Hid (b = true ↔ M.Good) := hgd
  clear hgd
  cases b
  · have NG : Hid (¬ M.Good) := fun g => absurd (HG.out.2 g) (by decide)
    obtain ⟨⟨x0, x1, x2⟩, f0, f1, f2⟩ := res6 rR
    clear HG rA h rR
    go_wp2
    exact bodyPost_ret (v := .tuple #[.agg #[.slice none 0 0, .slice none 0 0, .slice none 0 0], .bool false]) (by simp [results, Try.results32, go_sem, x0, x1, x2]) rfl (zero_gives (Or.inr ⟨fun g => NG.out g.1, rfl, rfl⟩) hb1)
  · have GD : Hid M.Good := HG.out.1 rfl
    clear HG
    by_cases hat : 0 ≤ at_ ∧ at_ ≤ 47
    · obtain ⟨n, rfl⟩ := Int.eq_ofNat_of_zero_le hat.1
      have hn : n < 48 := by omega
      clear hat
      go_wp2_with fail
      refine (l1At_yes _ _ (by omega) (by omega)).mono ?_
      rintro e w1 ⟨rfl, rfl⟩
      by_cases hx : 0 ≤ x ∧ x ≤ 65535
      · obtain ⟨p0, p1, p2⟩ := get3 rA
        go_wp2_with fail
        refine (l1In_yes _ _ _ _ hx.1 hx.2).mono ?_
        rintro e w1 ⟨rfl, rfl⟩
        have HX : Hid (0 ≤ x ∧ x ≤ 65535) := hx
        clear hx
        go_wp2_with fail
        clear p0 p1 p2
        refine (l1Own_any m M Y _ GD.out h).mono ?_
        rintro e w2 ⟨m2, rfl, own, hb2⟩
        simp only [MV.val, MD.full]
        have rlt := rR.lt
        replace rR := rR.blw hb2
        have z1 := hb1.size
        replace hb2 := hb1.trans hb2
        clear rA h hb1
        go_wp2_with fail
        have hbA : Blw w2 (w2.alloc (.cells #[.slice m2.a1 12 m2.c1, .slice m2.a2 12 m2.c2, .slice m2.a3 12 m2.c3] 26)) := (Blw.refl _).alloc _
        have rM := box3 w2 (.slice m2.a1 12 m2.c1) (.slice m2.a2 12 m2.c2) (.slice m2.a3 12 m2.c3) 26
        refine (l1Store_any m2 M.v1 M.v2 M.d _ _ n x hn (own.blw hbA) (fun b hb => by have := hb.2; have := hbA.size; omega)).mono ?_
        rintro e w3 ⟨⟨v, rfl⟩, own3, hm3⟩
        obtain ⟨q0, q1, q2⟩ := get3 (rM.mod hm3 (fun hh => by have := hh.2; omega))
        obtain ⟨⟨x0, x1, x2⟩, f0, f1, f2⟩ := res6 ((rR.blw hbA).mod hm3 (fun hh => by have := hh.1; omega))
        have hb3 : Blw w w3 := Mod.blw (hb2.trans hbA) hm3 (fun i hi => by have := hi.1; omega)
        have zA := hbA.size
        have z3 := hm3.size
        clear hbA rM rR own hm3 hb2
        go_wp2
        exact bodyPost_ret (v := .tuple #[.agg #[.slice m2.a1 12 m2.c1, .slice m2.a2 12 m2.c2, .slice m2.a3 12 m2.c3], .bool true]) (by simp [results, Try.results32, go_sem, x0, x1, x2]) rfl (some_gives (Or.inl ⟨GD.out, n, rfl, hn, HX.out, rfl, rfl⟩) hb3 own3 (fun b hb => by have := hb.1; have := hb.2; exact ⟨by omega, by omega⟩) rfl)
      · have NX : Hid (¬ (0 ≤ x ∧ x ≤ 65535)) := hx
        obtain ⟨⟨x0, x1, x2⟩, f0, f1, f2⟩ := res6 rR
        clear hx rA h rR
        go_wp2_with fail
        refine (l1In_no _ _ _ _ NX.out).mono ?_
        rintro e w1 ⟨rfl, rfl⟩
        go_wp2
        exact bodyPost_ret (v := .tuple #[.agg #[.slice none 0 0, .slice none 0 0, .slice none 0 0], .bool false]) (by simp [results, Try.results32, go_sem, x0, x1, x2]) rfl (zero_gives (Or.inr ⟨fun g => NX.out g.2.2, rfl, rfl⟩) hb1)
    · have NX : Hid (¬ (0 ≤ at_ ∧ at_ ≤ 47)) := hat
      obtain ⟨⟨x0, x1, x2⟩, f0, f1, f2⟩ := res6 rR
      clear hat rA h rR
      go_wp2_with fail
      refine (l1At_no _ _ NX.out).mono ?_
      rintro e w1 ⟨rfl, rfl⟩
      go_wp2
      exact bodyPost_ret (v := .tuple #[.agg #[.slice none 0 0, .slice none 0 0, .slice none 0 0], .bool false]) (by simp [results, Try.results32, go_sem, x0, x1, x2]) rfl (zero_gives (Or.inr ⟨fun g => NX.out g.2.1, rfl, rfl⟩) hb1)
/-- Behind the store of a memory held as a value into its box. -/
theorem held_facts {w w1 wz : World} {cs : Array Value} {f g : Nat → Value} {o : Obj} (hb1 : Blw w w1) (rR : Row w1 (w.heap.size + 1) 3 (fun _ => .slice none 0 0)) (q1 : Row wz w1.heap.size 108 (fun i => if 0 ≤ i ∧ i < 0 + cs.size then g (i - 0) else f i)) (q2 : Mod (fun x => x = w1.heap.size) (w1.alloc o) wz) (z1 : cs.size = 108) :
    Row wz w1.heap.size 108 g ∧ Blw w wz ∧ Row wz (w.heap.size + 1) 3 (fun _ => .slice none 0 0) :=
  have h0 : Blw w1 (w1.alloc o) := (Blw.refl _).alloc _
  ⟨held_row q1 z1, Mod.blw (hb1.trans h0) q2 (fun i hi => by have := hb1.size; omega), (rR.blw h0).mod q2 (by have := rR.lt; omega)⟩
set_option maxRecDepth 10000 in
set_option maxHeartbeats 1600000 in
theorem implStore_any (m : MV) (M : MD) (Y : Nat → Prop) (w : World) (at_ x : Int) (h : MemAt Y w m M) :
    Calls Try.prog 31 #[m.val M, .int .i64 at_, .int .i64 x] w (Gives (stOut M at_ x) w) := by
  go_enter Try.func31, Try.ntmps31
  go_wp2_with fail
  have hb0 : Blw w ((w.alloc (.cells #[.slice m.a1 M.n1 m.c1, .slice m.a2 M.n2 m.c2, .slice m.a3 M.n3 m.c3] 26)).alloc (.cells #[.slice none 0 0, .slice none 0 0, .slice none 0 0] 26)) := ((Blw.refl _).alloc _).alloc _
  have rR := res_row w (.slice m.a1 M.n1 m.c1) (.slice m.a2 M.n2 m.c2) (.slice m.a3 M.n3 m.c3)
  refine (holdMemory_any m M Y _ (h.blw hb0)).mono ?_
  rintro e w1 ⟨hr, hb1⟩
  replace rR := rR.blw hb1
  replace hb1 := hb0.trans hb1
  have r79 := row79 w1
  have zw := hb1.size
  have rlt := rR.lt
  clear h hb0
  rcases hr with ⟨good, cs, z1, z2, rfl⟩ | ⟨bad, rfl⟩
  · have hi : (Try.prog.info? 98).map (·.size) = some cs.size := by rw [z1]; exact info79
    have one := one_cells' z1 z2
    have GD : Hid M.Good := good
    clear good
    go_wp2_with (refine wpList_store_row rfl 98 (.tmp 8) (.tmp 13) rfl w1.heap.size 0 cs rfl rfl 108 _ (hcell M.v1 M.v2 M.d) r79 (by omega) hi one (fun j hj => z2 j (by omega)) ?_; intro wz qz1 qz2 qz3; have hz := held_facts hb1 rR qz1 qz2 z1; obtain ⟨rH, hbz, rZ⟩ := hz; clear qz1 qz2 qz3)
    have zlt := rH.lt
    clear r79 hi one z1 z2 rR hb1
    by_cases hat : 0 ≤ at_ ∧ at_ ≤ 47
    · obtain ⟨n, rfl⟩ := Int.eq_ofNat_of_zero_le hat.1
      have hn : n < 48 := by omega
      clear hat
      refine (isPlace_yes _ _ (by omega) (by omega)).mono ?_
      rintro e wz ⟨rfl, rfl⟩
      by_cases hx : wordOK x
      · have HX : Hid (wordOK x) := hx
        clear hx
        go_wp2_with fail
        refine (isWord_yes _ _ HX.out).mono ?_
        rintro e wz ⟨rfl, rfl⟩
        go_wp2_with fail
        refine (storeWord_any _ _ _ _ n x _ hn rH).mono ?_
        rintro e w3 ⟨⟨v, rfl⟩, rH3, hm3⟩
        replace rZ := rZ.mod hm3 (by omega)
        replace hbz : Blw w w3 := Mod.blw hbz hm3 (fun i hi => by omega)
        have z3 := hm3.size
        clear rH hm3
        go_wp2_with fail
        refine (giveOut_any _ _ _ _ _ rH3).mono ?_
        rintro e w4 ⟨m4, rfl, own, hb4⟩
        simp only [MV.val, MD.full]
        obtain ⟨⟨x0, x1, x2⟩, f0, f1, f2⟩ := res6 (rZ.blw hb4)
        replace hbz := hbz.trans hb4
        have r3lt := rZ.lt
        clear rH3 rZ hb4
        go_wp2
        exact bodyPost_ret (v := .tuple #[.agg #[.slice m4.a1 12 m4.c1, .slice m4.a2 12 m4.c2, .slice m4.a3 12 m4.c3], .bool true]) (by simp [results, Try.results31, go_sem, x0, x1, x2]) rfl (some_gives (Or.inl ⟨GD.out, n, rfl, hn, HX.out, rfl, rfl⟩) hbz own (fun b hb => by have := hb.1; have := hb.2; exact ⟨by omega, by omega⟩) rfl)
      · have NX : Hid (¬ wordOK x) := hx
        obtain ⟨⟨x0, x1, x2⟩, f0, f1, f2⟩ := res6 rZ
        clear hx rH rZ
        go_wp2_with fail
        refine (isWord_no _ _ NX.out).mono ?_
        rintro e wz ⟨rfl, rfl⟩
        go_wp2
        exact bodyPost_ret (v := .tuple #[.agg #[.slice none 0 0, .slice none 0 0, .slice none 0 0], .bool false]) (by simp [results, Try.results31, go_sem, x0, x1, x2]) rfl (zero_gives (Or.inr ⟨fun g => NX.out g.2.2, rfl, rfl⟩) hbz)
    · have NX : Hid (¬ (0 ≤ at_ ∧ at_ ≤ 47)) := hat
      obtain ⟨⟨x0, x1, x2⟩, f0, f1, f2⟩ := res6 rZ
      clear hat rH rZ
      refine (isPlace_no _ _ NX.out).mono ?_
      rintro e wz ⟨rfl, rfl⟩
      go_wp2
      exact bodyPost_ret (v := .tuple #[.agg #[.slice none 0 0, .slice none 0 0, .slice none 0 0], .bool false]) (by simp [results, Try.results31, go_sem, x0, x1, x2]) rfl (zero_gives (Or.inr ⟨fun g => NX.out g.2.1, rfl, rfl⟩) hbz)
  · have NG : Hid (¬ M.Good) := bad
    clear bad
    go_wp2_with (refine wpList_store_row rfl 98 (.tmp 8) (.tmp 13) rfl w1.heap.size 0 Try.zeroCells98 rfl rfl 108 _ (hcell zeros zeros (fun _ => false)) r79 (by rw [size79]; omega) (by rw [size79]; exact info79) one79 cell79 ?_; intro wz qz1 qz2 qz3; have hz := held_facts hb1 rR qz1 qz2 size79; obtain ⟨rH, hbz, rZ⟩ := hz; obtain ⟨⟨x0, x1, x2⟩, f0, f1, f2⟩ := res6 rZ; clear qz1 qz2 qz3 rH rZ)
    exact bodyPost_ret (v := .tuple #[.agg #[.slice none 0 0, .slice none 0 0, .slice none 0 0], .bool false]) (by simp [results, Try.results31, go_sem, x0, x1, x2]) rfl (zero_gives (Or.inr ⟨fun g => NG.out g.1, rfl, rfl⟩) hbz)
end Go.Proofs.Ytnbcjdoohmjghaa
/- A line that is flushed: in owned memory, and in a memory held as a value. -/
namespace Go.Proofs.Ytnbcjdoohmjghaa
open Go.RowKit
set_option linter.unusedSimpArgs false
def flS (s c : Nat → Nat → Int) (i : Nat) : Nat → Nat → Int := fun k j => if k = i then c k j else s k j
def flD (d : Nat → Bool) (i : Nat) : Nat → Bool := fun k => if k = i then false else d k
theorem own_flushed {X X1 X2 X3 : Nat → Prop} {w1 w2 : World} {sv cv : Nat → Nat → Int} {d : Nat → Bool} {a2 : Option Addr} {b1 b3 c1 c2 c3 i b cc N : Nat} {F k : Nat → Nat} (hi : i < 12)
    (h1 : ∀ b, X1 b → X b ∧ ¬ X2 b ∧ ¬ X3 b) (h2 : ∀ b, X2 b → X b ∧ ¬ X3 b) (h3 : ∀ b, X3 b → X b) (hX : ∀ b, X b → b < N) (hb : Blw w1 w2)
    (xb1 : X1 b1) (r1 : Row w1 b1 12 (fun i => .slice (some ⟨F i, 0, none⟩) 4 (k i)))
    (hl : ∀ i, i < 12 → 4 ≤ 9223372036854775807 ∧ X1 (F i) ∧ F i ≠ b1 ∧ Row w1 (F i) 4 (fun t => .int .i64 (sv i t))) (hd : ∀ i j, i < 12 → j < 12 → i ≠ j → F i ≠ F j)
    (c : LinesOwn X2 w1 a2 12 (fun _ => 4) cv) (xb3 : X3 b3) (r3 : Row w1 b3 12 (fun i => .bool (d i))) (hlo : N ≤ b) (hhi : b < w2.heap.size) (hrow : Row w2 b 4 (fun t => .int .i64 (cv i t))) :
    MemOwn (fun x => X x ∨ (N ≤ x ∧ x < ((w2.setCell ⟨b1, i, none⟩ (.slice (some ⟨b, 0, none⟩) 4 cc)).setCell ⟨b3, i, none⟩ (.bool false)).heap.size)) ((w2.setCell ⟨b1, i, none⟩ (.slice (some ⟨b, 0, none⟩) 4 cc)).setCell ⟨b3, i, none⟩ (.bool false)) ⟨some ⟨b1, 0, none⟩, a2, some ⟨b3, 0, none⟩, c1, c2, c3⟩ (MD.full (flS sv cv i) cv (flD d i)) := by
  have nX : ∀ x, X x → x ≠ b := fun x hx e => by have := hX x hx; omega
  have mA := Mod.setCell (X := fun x => x = b1) w2 (p := ⟨b1, i, none⟩) rfl (.slice (some ⟨b, 0, none⟩) 4 cc)
  have mB := Mod.setCell (X := fun x => x = b3) (w2.setCell ⟨b1, i, none⟩ (.slice (some ⟨b, 0, none⟩) 4 cc)) (p := ⟨b3, i, none⟩) rfl (.bool false)
  have n1 : ∀ x, X1 x → ¬ x = b3 := fun x hx e => (h1 x hx).2.2 (e ▸ xb3)
  have n2 : ∀ x, X2 x → ¬ x = b3 := fun x hx e => (h2 x hx).2 (e ▸ xb3)
  have n21 : ∀ x, X2 x → ¬ x = b1 := fun x hx e => (h1 b1 xb1).2.1 (e ▸ hx)
  have eb1 : b ≠ b1 := fun e => nX b1 (h1 _ xb1).1 e.symm
  have eb3 : b ≠ b3 := fun e => nX b3 (h3 _ xb3) e.symm
  refine ⟨fun x => X1 x ∨ x = b, X2, X3, fun x hx => ?_, fun x hx => ⟨Or.inl (h2 x hx).1, (h2 x hx).2⟩, fun x hx => Or.inl (h3 x hx), ⟨by show 12 ≤ _; omega, fun _ => ⟨b1, fun t => if t = i then b else F t, fun t => if t = i then cc else k t, Or.inl xb1, rfl, ?_, fun t ht => ?_, fun t u ht hu htu => ?_⟩⟩, ((c.blw hb).mod mA n21).mod mB n2, ⟨by show 12 ≤ _; omega, fun _ => ⟨b3, xb3, rfl, ?_⟩⟩⟩
  · rcases hx with hx | rfl
    · exact ⟨Or.inl (h1 x hx).1, (h1 x hx).2⟩
    · exact ⟨Or.inr ⟨hlo, by simpa [World.setCell] using hhi⟩, fun e => nX x (h2 x e).1 rfl, fun e => nX x (h3 x e) rfl⟩
  · exact (((r1.blw hb).set i (.slice (some ⟨b, 0, none⟩) 4 cc)).mod mB (n1 _ xb1)).congr (fun t ht => by
      show (if t = i then Value.slice (some ⟨b, 0, none⟩) 4 cc else .slice (some ⟨F t, 0, none⟩) 4 (k t)) = .slice (some ⟨if t = i then b else F t, 0, none⟩) 4 (if t = i then cc else k t)
      by_cases e : t = i <;> simp [e])
  · obtain ⟨-, xt, ht1, rt⟩ := hl t ht
    by_cases e : t = i
    · subst e
      simp only [if_true]
      exact ⟨by show 4 ≤ _; omega, Or.inr trivial, eb1, ((hrow.mod mA eb1).mod mB eb3).congr (fun j hj => by simp [flS, MD.full])⟩
    · simp only [if_neg e]
      exact ⟨by show 4 ≤ _; omega, Or.inl xt, ht1, (((rt.blw hb).mod mA ht1).mod mB (n1 _ xt)).congr (fun j hj => by simp [flS, MD.full, e])⟩
  · obtain ⟨-, xt, -, -⟩ := hl t ht
    obtain ⟨-, xu, -, -⟩ := hl u hu
    by_cases e : t = i
    · have e' : ¬ u = i := fun h => htu (e.trans h.symm)
      simp only [if_pos e, if_neg e']
      exact fun h => nX _ (h1 _ xu).1 h.symm
    · by_cases e' : u = i
      · simp only [if_neg e, if_pos e']
        exact nX _ (h1 _ xt).1
      · simp only [if_neg e, if_neg e']
        exact hd t u ht hu htu
  · exact (((r3.blw hb).mod mA (fun e => n1 _ xb1 e.symm)).set i (.bool false)).congr (fun t ht => by
      show (if t = i then Value.bool false else .bool (d t)) = .bool (flD d i t)
      unfold flD
      by_cases e : t = i <;> simp [e])
set_option maxRecDepth 10000 in
set_option maxHeartbeats 1600000 in
theorem l1Flush_any (m : MV) (sv cv : Nat → Nat → Int) (d : Nat → Bool) (X : Nat → Prop) (w : World) (i : Nat) (hi : i < 12) (h : MemOwn X w m (MD.full sv cv d)) (hX : ∀ b, X b → b < w.heap.size) :
    Calls Try.prog 88 #[m.val (MD.full sv cv d), .int .i64 i] w fun e w' => (∃ v, e = .returned v) ∧ MemOwn (fun b => X b ∨ (w.heap.size ≤ b ∧ b < w'.heap.size)) w' m (MD.full (flS sv cv i) cv (flD d i)) ∧ Mod X w w' := by
  obtain ⟨X1, X2, X3, h1', h2', h3', s, c, d'⟩ := h.ex
  obtain ⟨a1, a2, a3, c1, c2, c3⟩ := m
  clear h
  simp only [MV.val, MD.full] at *
  obtain ⟨b1, F1, k1, xb1, rfl, r1, hl1, hd1⟩ := s.2 (by omega)
  have c0 := c
  obtain ⟨b2, F2, k2, xb2, rfl, r2, hl2, hd2⟩ := c.2 (by omega)
  obtain ⟨b3, xb3, rfl, r3⟩ := d'.2 (by omega)
  clear s c d'
  have hb0 : Blw w (w.alloc (.cells #[.slice (some ⟨b1, 0, none⟩) 12 c1, .slice (some ⟨b2, 0, none⟩) 12 c2, .slice (some ⟨b3, 0, none⟩) 12 c3] 26)) := (Blw.refl _).alloc _
  have rB := box3 w (.slice (some ⟨b1, 0, none⟩) 12 c1) (.slice (some ⟨b2, 0, none⟩) 12 c2) (.slice (some ⟨b3, 0, none⟩) 12 c3) 26
  have hI : ¬ (12 ≤ (i : Int)) := by omega
  have hI2 : (i : Int) < 12 := by omega
  go_enter Try.func88, Try.ntmps88
  go_wp2_with fail
  have hz : w.heap.size < (w.alloc (.cells #[.slice (some ⟨b1, 0, none⟩) 12 c1, .slice (some ⟨b2, 0, none⟩) 12 c2, .slice (some ⟨b3, 0, none⟩) 12 c3] 26)).heap.size := by simp
  revert hb0 rB hz
  generalize w.alloc (.cells #[.slice (some ⟨b1, 0, none⟩) 12 c1, .slice (some ⟨b2, 0, none⟩) 12 c2, .slice (some ⟨b3, 0, none⟩) 12 c3] 26) = W0
  intro hb0 rB hz
  replace r1 := r1.blw hb0
  replace r2 := r2.blw hb0
  replace r3 := r3.blw hb0
  replace c0 := c0.blw hb0
  replace hl1 : ∀ i, i < 12 → 4 ≤ 9223372036854775807 ∧ X1 (F1 i) ∧ F1 i ≠ b1 ∧ Row W0 (F1 i) 4 (fun t => .int .i64 (sv i t)) := fun i hi => let ⟨g1, g2, g3, g4⟩ := hl1 i hi; ⟨g1, g2, g3, g4.blw hb0⟩
  replace hl2 : ∀ i, i < 12 → 4 ≤ 9223372036854775807 ∧ X2 (F2 i) ∧ F2 i ≠ b2 ∧ Row W0 (F2 i) 4 (fun t => .int .i64 (cv i t)) := fun i hi => let ⟨g1, g2, g3, g4⟩ := hl2 i hi; ⟨g1, g2, g3, g4.blw hb0⟩
  have n21 : ∀ x, X2 x → ¬ x = b1 := fun x hx e => (h1' b1 xb1).2.1 (e ▸ hx)
  have bb1 := hX _ (h1' _ xb1).1
  have bb3 := hX _ (h3' _ xb3)
  have HF : Hid (∀ w2 b cc, Blw W0 w2 → w.heap.size ≤ b → b < w2.heap.size → Row w2 b 4 (fun t => .int .i64 (cv i t)) → _) := fun w2 b cc hb hlo hhi hrow => own_flushed (cc := cc) (c1 := c1) (c2 := c2) (c3 := c3) hi h1' h2' h3' hX hb xb1 r1 hl1 hd1 c0 xb3 r3 hlo hhi hrow
  have RA0 : ∀ w', Mod (fun x => x = b1) W0 w' → w'.cell? ⟨w.heap.size, 0, none⟩ = some (.slice (some ⟨b1, 0, none⟩) 12 c1) := fun w' hS => (get3 (rB.mod hS (by omega))).1
  have RA1 : ∀ w', Mod (fun x => x = b1) W0 w' → w'.cell? ⟨w.heap.size, 1, none⟩ = some (.slice (some ⟨b2, 0, none⟩) 12 c2) := fun w' hS => (get3 (rB.mod hS (by omega))).2.1
  have RA2 : Hid (∀ w', Mod (fun x => x = b1) W0 w' → w'.cell? ⟨w.heap.size, 2, none⟩ = some (.slice (some ⟨b3, 0, none⟩) 12 c3)) := fun w' hS => (get3 (rB.mod hS (by omega))).2.2
  have RB : ∀ w', Mod (fun x => x = b1) W0 w' → w'.cell? ⟨b2, i, none⟩ = some (.slice (some ⟨F2 i, 0, none⟩) 4 (k2 i)) := fun w' hS => (r2.mod hS (n21 _ xb2)).cell hi
  have RC : Hid (∀ w', Mod (fun x => x = b1) W0 w' → ∀ t, t < 4 → w'.cell? ⟨F2 i, 0 + t, none⟩ = some (.int .i64 (cv i t))) := fun w' hS t ht => by
    rw [Nat.zero_add]
    exact ((hl2 i hi).2.2.2.mod hS (n21 _ (hl2 i hi).2.1)).cell ht
  have R3 : Hid (∀ w', Mod (fun x => x = b1) W0 w' → Row w' b3 12 (fun i => .bool (d i))) := fun w' hS => r3.mod hS (fun e => (h1' _ xb1).2.2 (e ▸ xb3))
  have XX : Hid (X b1 ∧ X b3) := ⟨(h1' _ xb1).1, h3' _ xb3⟩
  clear hl1 hl2 hd1 hd2 r2 r3 rB c0 n21 h1' h2' h3' hX
  refine wp_region_noPanic ?_
  refine wp_region_held_drew (S := fun w' => Mod (fun x => x = b1) W0 w') (by kernel_rfl) ((Blw.refl W0).drew.mod _) (fun hS1 => ?_)
  have h1 : Blw W0 W0.drew := (Blw.refl W0).drew
  revert hS1 h1
  generalize W0.drew = w1
  intro hS1 h1
  refine wpAnyH_take (i := 0) (oi := { dst := some 4, op := Op.fieldAddr 26 (Operand.tmp 2) 0, type := 0, pos := _, after := #[], guard := none }) (v := .pointer (some ⟨w.heap.size, 0, none⟩)) rfl (by kernel_rfl) (by kernel_rfl) (by kernel_rfl) (fun _ _ _ h => h) (Or.inl ⟨by rfl, fun w' hS => by (try dsimp only at hS); go_simp⟩) hS1 ?_
  simp only [Act.put, List.setIfInBounds_toArray, List.set_cons_zero, List.set_cons_succ]
  refine wpAnyH_take (i := 1) (oi := { dst := some 5, op := Op.load 23 (Operand.tmp 4), type := 23, pos := _, after := #[{ on := 0, ground := Ground.data }], guard := none }) (v := .slice (some ⟨b1, 0, none⟩) 12 c1) rfl (by kernel_rfl) (by kernel_rfl) (by kernel_rfl) (fun _ _ _ h => h) (Or.inl ⟨by rfl, fun w' hS => by (try dsimp only at hS); go_simp⟩) hS1 ?_
  simp only [Act.put, List.setIfInBounds_toArray, List.set_cons_zero, List.set_cons_succ]
  refine wpAnyH_take (i := 2) (oi := { dst := some 6, op := Op.move (Operand.tmp 1), type := 3, pos := _, after := #[], guard := none }) (v := .int .i64 i) rfl (by kernel_rfl) (by kernel_rfl) (by kernel_rfl) (fun _ _ _ h => h) (Or.inl ⟨by rfl, fun w' hS => by (try dsimp only at hS); go_simp⟩) hS1 ?_
  simp only [Act.put, List.setIfInBounds_toArray, List.set_cons_zero, List.set_cons_succ]
  refine wpAnyH_take (i := 3) (oi := { dst := some 7, op := Op.fieldAddr 26 (Operand.tmp 2) 1, type := 0, pos := _, after := #[], guard := none }) (v := .pointer (some ⟨w.heap.size, 1, none⟩)) rfl (by kernel_rfl) (by kernel_rfl) (by kernel_rfl) (fun _ _ _ h => h) (Or.inl ⟨by rfl, fun w' hS => by (try dsimp only at hS); go_simp⟩) hS1 ?_
  simp only [Act.put, List.setIfInBounds_toArray, List.set_cons_zero, List.set_cons_succ]
  refine wpAnyH_take (i := 4) (oi := { dst := some 8, op := Op.load 23 (Operand.tmp 7), type := 23, pos := _, after := #[{ on := 3, ground := Ground.data }], guard := none }) (v := .slice (some ⟨b2, 0, none⟩) 12 c2) rfl (by kernel_rfl) (by kernel_rfl) (by kernel_rfl) (fun _ _ _ h => h) (Or.inl ⟨by rfl, fun w' hS => by (try dsimp only at hS); go_simp⟩) hS1 ?_
  simp only [Act.put, List.setIfInBounds_toArray, List.set_cons_zero, List.set_cons_succ]
  refine wpAnyH_take (i := 5) (oi := { dst := some 9, op := Op.move (Operand.tmp 1), type := 3, pos := _, after := #[], guard := none }) (v := .int .i64 i) rfl (by kernel_rfl) (by kernel_rfl) (by kernel_rfl) (fun _ _ _ h => h) (Or.inl ⟨by rfl, fun w' hS => by (try dsimp only at hS); go_simp⟩) hS1 ?_
  simp only [Act.put, List.setIfInBounds_toArray, List.set_cons_zero, List.set_cons_succ]
  refine wpAnyH_take (i := 6) (oi := { dst := some 10, op := Op.indexAddr 23 (Operand.tmp 8) (Operand.tmp 9), type := 0, pos := _, after := #[{ on := 4, ground := Ground.data }, { on := 5, ground := Ground.data }], guard := none }) (v := .pointer (some ⟨b2, i, none⟩)) rfl (by kernel_rfl) (by kernel_rfl) (by kernel_rfl) (fun _ _ _ h => h) (Or.inl ⟨by rfl, fun w' hS => by (try dsimp only at hS); go_simp⟩) hS1 ?_
  simp only [Act.put, List.setIfInBounds_toArray, List.set_cons_zero, List.set_cons_succ]
  refine wpAnyH_take (i := 7) (oi := { dst := some 11, op := Op.load 37 (Operand.tmp 10), type := 37, pos := _, after := #[{ on := 6, ground := Ground.data }], guard := none }) (v := .agg #[.slice (some ⟨F2 i, 0, none⟩) 4 (k2 i)]) rfl (by kernel_rfl) (by kernel_rfl) (by kernel_rfl) (fun _ _ _ h => h) (Or.inl ⟨by rfl, fun w' hS => by (try dsimp only at hS); go_simp⟩) hS1 ?_
  simp only [Act.put, List.setIfInBounds_toArray, List.set_cons_zero, List.set_cons_succ]
  refine wpAnyH_ready (rs := [8]) (by kernel_rfl) (by simp) ?_
  refine AllReadyH.cons (o := { dst := some 12, op := Op.call { callee := Callee.value (Operand.func 127), args := #[Operand.tmp 11], argTypes := #[37] }, type := 37, pos := _, after := #[{ on := 7, ground := Ground.data }], guard := none }) rfl (fun K hK => ?_) AllReadyH.nil
  go_simp
  refine (l1Copy_any _ _ _ 4 (cv i) _ (by omega) (by omega) (RC.out _ hS1)).mono ?_
  rintro e w2 ⟨b, cc, rfl, hlo0, hhi, hrow, hb2⟩
  have h2 := h1.trans hb2
  have hlo : W0.heap.size ≤ b := by have := h1.size; omega
  refine hK.out _ _ (h2.mod _) (fun hS2 => ?_)
  clear hK K hlo0 hb2
  try simp only [Act.put, List.setIfInBounds_toArray, List.set_cons_zero, List.set_cons_succ]
  refine wpAnyH_take (i := 9) (oi := { dst := some 13, op := Op.indexAddr 23 (Operand.tmp 5) (Operand.tmp 6), type := 0, pos := _, after := #[{ on := 1, ground := Ground.data }, { on := 2, ground := Ground.data }, { on := 0, ground := Ground.phase }, { on := 1, ground := Ground.phase }, { on := 2, ground := Ground.phase }, { on := 3, ground := Ground.phase }, { on := 4, ground := Ground.phase }, { on := 5, ground := Ground.phase }, { on := 6, ground := Ground.phase }, { on := 7, ground := Ground.phase }, { on := 8, ground := Ground.phase }], guard := none }) (v := .pointer (some ⟨b1, i, none⟩)) rfl (by kernel_rfl) (by kernel_rfl) (by kernel_rfl) (fun _ _ _ h => h) (Or.inl ⟨by rfl, fun w' hS => by (try dsimp only at hS); go_simp⟩) hS2 ?_
  simp only [Act.put, List.setIfInBounds_toArray, List.set_cons_zero, List.set_cons_succ]
  have qq0 := (r1.blw h2).cell (i := i) hi
  have qq1 := (r1.blw h2).frozen i
  refine wpAnyH_ready (rs := [10]) (by kernel_rfl) (by simp) ?_
  refine AllReadyH.cons (o := { dst := none, op := Op.store 37 (Operand.tmp 13) (Operand.tmp 12), type := 0, pos := _, after := #[{ on := 9, ground := Ground.data }, { on := 8, ground := Ground.data }, { on := 8, ground := Ground.chain }, { on := 0, ground := Ground.phase }, { on := 1, ground := Ground.phase }, { on := 2, ground := Ground.phase }, { on := 3, ground := Ground.phase }, { on := 4, ground := Ground.phase }, { on := 5, ground := Ground.phase }, { on := 6, ground := Ground.phase }, { on := 7, ground := Ground.phase }, { on := 8, ground := Ground.phase }], guard := none }) rfl (fun K hK => ?_) AllReadyH.nil
  go_simp
  refine hK.out _ _ (hS2.trans (Mod.setCell (X := fun x => x = b1) _ (p := ⟨b1, i, none⟩) rfl _)) (fun hSe => ?_)
  clear hK K qq0 qq1 hSe
  refine wpAnyH_done (by kernel_rfl) ?_ _
  refine NoPanic.normal ?_
  have hSA := hS2.trans (Mod.setCell (X := fun x => x = b1) w2 (p := ⟨b1, i, none⟩) rfl (.slice (some ⟨b, 0, none⟩) 4 cc))
  have p2 := RA2.out _ hSA
  have q3 := (R3.out _ hSA).cell (i := i) hi
  have q3f := (R3.out _ hSA).frozen i
  have OWN : Hid _ := HF.out w2 b cc h2 (by omega) hhi hrow
  have hM : Hid (Mod X w ((w2.setCell ⟨b1, i, none⟩ (.slice (some ⟨b, 0, none⟩) 4 cc)).setCell ⟨b3, i, none⟩ (.bool false))) :=
    (((hb0.trans h2).mod X).trans (Mod.setCell (X := X) _ (p := ⟨b1, i, none⟩) XX.out.1 _)).trans (Mod.setCell (X := X) _ (p := ⟨b3, i, none⟩) XX.out.2 _)
  clear hSA RA0 RA1 RA2 RB RC R3 HF r1 hS1 hS2 h1 h2 hrow hlo hhi bb1 bb3
  go_wp2
  refine bodyPost_end (results_none rfl _ _ _) rfl ?_
  exact ⟨⟨_, rfl⟩, OWN.out, hM.out⟩
end Go.Proofs.Ytnbcjdoohmjghaa
/- A line flushed in a memory held as a value; 'spec.FlushLine', 'impl.FlushLine'. -/
namespace Go.Proofs.Ytnbcjdoohmjghaa
open Go.RowKit
set_option linter.unusedSimpArgs false
def words4 (f : Nat → Int) : List Value := [.int .i64 (f 0), .int .i64 (f 1), .int .i64 (f 2), .int .i64 (f 3)]
/-- The held memory under its flush. -/
structure FS (w0 w' : World) (B i : Nat) (c : Nat → Nat → Int) (n : Nat) : Prop where
  mod : Mod (fun x => x = B) w0 w'
  words : ∀ t, t < 4 → w'.cell? ⟨B, 48 + i * 4 + t, none⟩ = some (.int .i64 (c i t))
theorem FSrange {w0 w' : World} {B i n : Nat} {c : Nat → Nat → Int} (h : FS w0 w' B i c n) : w'.rangeAt B (48 + i * 4) (words4 (c i)) := by
  intro j v hv
  match j, hv with
  | 0, hv => rw [h.words 0 (by omega)]; exact hv
  | 1, hv => rw [h.words 1 (by omega)]; exact hv
  | 2, hv => rw [h.words 2 (by omega)]; exact hv
  | 3, hv => rw [h.words 3 (by omega)]; exact hv
  | j + 4, hv => simp [words4] at hv
theorem FSafter {w0 w1 w2 : World} {B i n : Nat} {c : Nat → Nat → Int} {s : Nat → Nat → Int} {d : Nat → Bool} (hi : i < 12) (h : FS w0 w1 B i c n) (r : Row w2 B 108 (fun j => if i * 4 ≤ j ∧ j < i * 4 + (words4 (c i)).toArray.size then .int .i64 (c i (j - i * 4)) else hcell s c d j)) (hm : Mod (fun x => x = B) w1 w2) : FS w0 w2 B i c n :=
  ⟨h.mod.trans hm, fun t ht => by
    have e : (words4 (c i)).toArray.size = 4 := rfl
    rw [r.cell (i := 48 + i * 4 + t) (by omega), e, if_neg (by omega), Nat.add_assoc, hcell_c hi ht]⟩
theorem hcell_flush {s c : Nat → Nat → Int} {d : Nat → Bool} {i : Nat} (hi : i < 12) (j : Nat) (hj : j < 108) :
    (if j = 96 + i then Value.bool false else if i * 4 ≤ j ∧ j < i * 4 + 4 then .int .i64 (c i (j - i * 4)) else hcell s c d j) = hcell (flS s c i) c (flD d i) j := by
  unfold hcell
  by_cases h1 : j < 48
  · rw [if_neg (by omega), if_pos h1, if_pos h1]
    unfold flS
    by_cases h2 : i * 4 ≤ j ∧ j < i * 4 + 4
    · have e1 : j / 4 = i := by omega
      have e2 : j % 4 = j - i * 4 := by omega
      rw [if_pos h2, if_pos e1, e1, e2]
    · rw [if_neg h2, if_neg (by omega)]
  · rw [if_neg h1, if_neg h1]
    by_cases h2 : j < 96
    · rw [if_neg (by omega), if_neg (by omega), if_pos h2, if_pos h2]
    · rw [if_neg h2, if_neg h2]
      unfold flD
      by_cases h3 : j = 96 + i
      · rw [if_pos h3, if_pos (by omega)]
      · rw [if_neg h3, if_neg (by omega), if_neg (by omega)]
set_option maxRecDepth 10000 in
set_option maxHeartbeats 1600000 in
theorem flushLine_any (B : Nat) (s c : Nat → Nat → Int) (d : Nat → Bool) (i : Nat) (w : World) (hi : i < 12) (r : Row w B 108 (hcell s c d)) :
    Calls Try.prog 78 #[.pointer (some ⟨B, 0, none⟩), .int .i64 i] w fun e w' => (∃ v, e = .returned v) ∧ Row w' B 108 (hcell (flS s c i) c (flD d i)) ∧ Mod (fun b => b = B) w w' := by
  have hI : ¬ (12 ≤ (i : Int)) := by omega
  have hI2 : (i : Int) < 12 := by omega
  go_enter Try.func78, Try.ntmps78
  go_wp2_with fail
  have r1 := r.blw (Blw.refl w).drew
  have hS0 : FS w w.drew B i c 0 := ⟨(Blw.refl w).drew.mod _, fun t ht => by rw [r1.cell (i := 48 + i * 4 + t) (by omega), Nat.add_assoc, hcell_c hi ht]⟩
  refine wp_region_noPanic ?_
  refine wp_region_held_drew (S := fun w' => FS w w' B i c 0) (by kernel_rfl) hS0 (fun hS1 => ?_)
  revert hS1 hS0 r1
  generalize w.drew = w1
  intro r1 hS0 hS1
  refine wpAnyH_take (i := 0) (oi := { dst := some 4, op := Op.move (Operand.tmp 0), type := 133, pos := _, after := #[], guard := none }) (v := .pointer (some ⟨B, 0, none⟩)) rfl (by kernel_rfl) (by kernel_rfl) (by kernel_rfl) (fun _ _ _ h => h) (Or.inl ⟨by rfl, fun w' hS => by (try dsimp only at hS); go_simp⟩) hS1 ?_
  simp only [Act.put, List.setIfInBounds_toArray, List.set_cons_zero, List.set_cons_succ]
  refine wpAnyH_take (i := 1) (oi := { dst := some 5, op := Op.move (Operand.tmp 1), type := 3, pos := _, after := #[], guard := none }) (v := .int .i64 i) rfl (by kernel_rfl) (by kernel_rfl) (by kernel_rfl) (fun _ _ _ h => h) (Or.inl ⟨by rfl, fun w' hS => by (try dsimp only at hS); go_simp⟩) hS1 ?_
  simp only [Act.put, List.setIfInBounds_toArray, List.set_cons_zero, List.set_cons_succ]
  refine wpAnyH_take (i := 2) (oi := { dst := some 6, op := Op.move (Operand.tmp 0), type := 133, pos := _, after := #[], guard := none }) (v := .pointer (some ⟨B, 0, none⟩)) rfl (by kernel_rfl) (by kernel_rfl) (by kernel_rfl) (fun _ _ _ h => h) (Or.inl ⟨by rfl, fun w' hS => by (try dsimp only at hS); go_simp⟩) hS1 ?_
  simp only [Act.put, List.setIfInBounds_toArray, List.set_cons_zero, List.set_cons_succ]
  refine wpAnyH_take (i := 3) (oi := { dst := some 7, op := Op.move (Operand.tmp 1), type := 3, pos := _, after := #[], guard := none }) (v := .int .i64 i) rfl (by kernel_rfl) (by kernel_rfl) (by kernel_rfl) (fun _ _ _ h => h) (Or.inl ⟨by rfl, fun w' hS => by (try dsimp only at hS); go_simp⟩) hS1 ?_
  simp only [Act.put, List.setIfInBounds_toArray, List.set_cons_zero, List.set_cons_succ]
  refine wpAnyH_take (i := 4) (oi := { dst := some 8, op := Op.nilCheck (Operand.tmp 6), type := 0, pos := _, after := #[{ on := 2, ground := Ground.data }], guard := none }) (v := .pointer (some ⟨B, 0, none⟩)) rfl (by kernel_rfl) (by kernel_rfl) (by kernel_rfl) (fun _ _ _ h => h) (Or.inl ⟨by rfl, fun w' hS => by (try dsimp only at hS); go_simp⟩) hS1 ?_
  simp only [Act.put, List.setIfInBounds_toArray, List.set_cons_zero, List.set_cons_succ]
  refine wpAnyH_take (i := 5) (oi := { dst := some 9, op := Op.fieldAddr 98 (Operand.tmp 8) 1, type := 0, pos := _, after := #[{ on := 4, ground := Ground.data }], guard := none }) (v := .pointer (some ⟨B, 48, none⟩)) rfl (by kernel_rfl) (by kernel_rfl) (by kernel_rfl) (fun _ _ _ h => h) (Or.inl ⟨by rfl, fun w' hS => by (try dsimp only at hS); go_simp⟩) hS1 ?_
  simp only [Act.put, List.setIfInBounds_toArray, List.set_cons_zero, List.set_cons_succ]
  refine wpAnyH_take (i := 6) (oi := { dst := some 10, op := Op.indexAddr 95 (Operand.tmp 9) (Operand.tmp 7), type := 0, pos := _, after := #[{ on := 5, ground := Ground.data }, { on := 3, ground := Ground.data }], guard := none }) (v := .pointer (some ⟨B, 48 + i * 4, none⟩)) rfl (by kernel_rfl) (by kernel_rfl) (by kernel_rfl) (fun _ _ _ h => h) (Or.inl ⟨by rfl, fun w' hS => by (try dsimp only at hS); go_simp⟩) hS1 ?_
  simp only [Act.put, List.setIfInBounds_toArray, List.set_cons_zero, List.set_cons_succ]
  refine wpAnyH_take (i := 7) (oi := { dst := some 11, op := Op.load 94 (Operand.tmp 10), type := 94, pos := _, after := #[{ on := 6, ground := Ground.data }], guard := none }) (v := .agg (words4 (c i)).toArray) rfl (by kernel_rfl) (by kernel_rfl) (by kernel_rfl) (fun _ _ _ h => h) (yieldsIf_load_mid (by rfl) 94 (.tmp 10) rfl B (48 + i * 4) rfl (words4 (c i)) _ (fun w' hS => FSrange hS) Try.underlying94 rfl info75) hS1 ?_
  simp only [Act.put, List.setIfInBounds_toArray, List.set_cons_zero, List.set_cons_succ]
  refine wpAnyH_take (i := 8) (oi := { dst := some 12, op := Op.nilCheck (Operand.tmp 4), type := 0, pos := _, after := #[{ on := 0, ground := Ground.data }], guard := none }) (v := .pointer (some ⟨B, 0, none⟩)) rfl (by kernel_rfl) (by kernel_rfl) (by kernel_rfl) (fun _ _ _ h => h) (Or.inl ⟨by rfl, fun w' hS => by (try dsimp only at hS); go_simp⟩) hS1 ?_
  simp only [Act.put, List.setIfInBounds_toArray, List.set_cons_zero, List.set_cons_succ]
  refine wpAnyH_take (i := 9) (oi := { dst := some 13, op := Op.fieldAddr 98 (Operand.tmp 12) 0, type := 0, pos := _, after := #[{ on := 8, ground := Ground.data }], guard := none }) (v := .pointer (some ⟨B, 0, none⟩)) rfl (by kernel_rfl) (by kernel_rfl) (by kernel_rfl) (fun _ _ _ h => h) (Or.inl ⟨by rfl, fun w' hS => by (try dsimp only at hS); go_simp⟩) hS1 ?_
  simp only [Act.put, List.setIfInBounds_toArray, List.set_cons_zero, List.set_cons_succ]
  refine wpAnyH_take (i := 10) (oi := { dst := some 14, op := Op.indexAddr 95 (Operand.tmp 13) (Operand.tmp 5), type := 0, pos := _, after := #[{ on := 9, ground := Ground.data }, { on := 1, ground := Ground.data }, { on := 0, ground := Ground.phase }, { on := 1, ground := Ground.phase }, { on := 2, ground := Ground.phase }, { on := 3, ground := Ground.phase }, { on := 4, ground := Ground.phase }, { on := 5, ground := Ground.phase }, { on := 6, ground := Ground.phase }, { on := 7, ground := Ground.phase }], guard := none }) (v := .pointer (some ⟨B, i * 4, none⟩)) rfl (by kernel_rfl) (by kernel_rfl) (by kernel_rfl) (fun _ _ _ h => h) (Or.inl ⟨by rfl, fun w' hS => by (try dsimp only at hS); go_simp⟩) hS1 ?_
  simp only [Act.put, List.setIfInBounds_toArray, List.set_cons_zero, List.set_cons_succ]
  refine wpAnyH_ready (rs := [11]) (by kernel_rfl) (by simp) ?_
  refine AllReadyH.cons (o := { dst := none, op := Op.store 94 (Operand.tmp 14) (Operand.tmp 11), type := 0, pos := _, after := #[{ on := 10, ground := Ground.data }, { on := 7, ground := Ground.data }, { on := 0, ground := Ground.phase }, { on := 1, ground := Ground.phase }, { on := 2, ground := Ground.phase }, { on := 3, ground := Ground.phase }, { on := 4, ground := Ground.phase }, { on := 5, ground := Ground.phase }, { on := 6, ground := Ground.phase }, { on := 7, ground := Ground.phase }], guard := none }) rfl (fun K hK => ?_) AllReadyH.nil
  rw [if_pos (by rfl)]
  refine wp_store_row 94 (.tmp 14) (.tmp 11) rfl B (i * 4) (words4 (c i)).toArray rfl rfl 108 _ (fun t => .int .i64 (c i t)) r1 (by show i * 4 + 4 ≤ 108; omega) info75 (one_four (c i)) (cell_four (c i)) ?_
  intro w2 r2 hm2 hz2
  refine hK.out _ _ (FSafter hi hS1 r2 hm2) (fun hSe => ?_)
  clear hK K hSe
  refine wpAnyH_done (by kernel_rfl) ?_ _
  refine NoPanic.normal ?_
  have e4 : (words4 (c i)).toArray.size = 4 := rfl
  rw [e4] at r2
  have k0 := r2.cell (i := 96 + i) (by omega)
  have kf := r2.frozen (96 + i)
  have R : Hid (Row _ B 108 (hcell (flS s c i) c (flD d i))) := (r2.set (96 + i) (.bool false)).congr (fun j hj => hcell_flush hi j hj)
  have hm : Hid (Mod (fun b => b = B) w (w2.setCell ⟨B, 96 + i, none⟩ (.bool false))) := (hS1.mod.trans hm2).trans (Mod.setCell (X := fun b => b = B) _ (p := ⟨B, 96 + i, none⟩) rfl _)
  clear r r1 r2 hm2 hS0 hS1
  go_wp2
  refine bodyPost_end (results_none rfl _ _ _) rfl ?_
  exact ⟨⟨_, rfl⟩, R.out, hm.out⟩
end Go.Proofs.Ytnbcjdoohmjghaa
