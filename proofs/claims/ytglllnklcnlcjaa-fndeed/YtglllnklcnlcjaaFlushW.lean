/- A line that is flushed: in owned memory, and in a memory held as a value. -/
import Derived.Test.YtglllnklcnlcjaaXStore
namespace Go.Proofs.Ytglllnklcnlcjaa
open Go.RowKit
set_option linter.unusedSimpArgs false
def flS (s c : Nat → Nat → Int) (i : Nat) : Nat → Nat → Int := fun k j => if k = i then c k j else s k j
def flD (d : Nat → Bool) (i : Nat) : Nat → Bool := fun k => if k = i then false else d k
theorem own_flushed {X X1 X2 X3 : Nat → Prop} {w1 w2 : World} {sv cv : Nat → Nat → Int} {d : Nat → Bool} {a2 : Option Addr} {b1 b3 c1 c2 c3 i b cc N : Nat} {F k : Nat → Nat} (hi : i < 12)
    (h1 : ∀ b, X1 b → X b ∧ ¬ X2 b ∧ ¬ X3 b) (h2 : ∀ b, X2 b → X b ∧ ¬ X3 b) (h3 : ∀ b, X3 b → X b) (hX : ∀ b, X b → b < N) (hb : Blw w1 w2)
    (xb1 : X1 b1) (r1 : Row w1 b1 12 (fun i => .slice (some ⟨F i, 0, none⟩) 4 (k i)))
    (hl : ∀ i, i < 12 → 4 ≤ 9223372036854775807 ∧ X1 (F i) ∧ F i ≠ b1 ∧ Row w1 (F i) 4 (fun t => .int .i64 (sv i t))) (hd : ∀ i j, i < 12 → j < 12 → i ≠ j → F i ≠ F j)
    (c : LinesOwn X2 w1 a2 12 (fun _ => 4) cv) (xb3 : X3 b3) (r3 : Row w1 b3 12 (fun i => .bool (d i))) (hlo : N ≤ b) (hhi : b < w2.heap.size) (hrow : Row w2 b 4 (fun t => .int .i64 (cv i t))) :
    MemOwn (fun x => X x ∨ (N ≤ x ∧ x < ((w2.setCell ⟨b1, i, none⟩ (.slice (some ⟨b, 0, none⟩) 4 cc)).setCell ⟨b3, i, none⟩ (.bool false)).heap.size)) ((w2.setCell ⟨b1, i, none⟩ (.slice (some ⟨b, 0, none⟩) 4 cc)).setCell ⟨b3, i, none⟩ (.bool false)) ⟨some ⟨b1, 0, none⟩, a2, some ⟨b3, 0, none⟩, c1, c2, c3⟩ (MD.full (flS sv cv i) cv (flD d i)) := by
  have nX : ∀ x, X x → x ≠ b := fun x hx e => by have := hX x hx; omega
  have mA := Mod.setCell (X := fun x => x = b1) w2 (p := ⟨b1, i, none⟩) rfl (.slice (some ⟨b, 0, none⟩) 4 cc)
  have mB := Mod.setCell (X := fun x => x = b3) (w2.setCell ⟨b1, i, none⟩ (.slice (some ⟨b, 0, none⟩) 4 cc)) (p := ⟨b3, i, none⟩) rfl (.bool false)
  have n1 : ∀ x, X1 x → ¬ x = b3 := fun x hx e => (h1 x hx).2.2 (e ▸ xb3)
  have n2 : ∀ x, X2 x → ¬ x = b3 := fun x hx e => (h2 x hx).2 (e ▸ xb3)
  have n21 : ∀ x, X2 x → ¬ x = b1 := fun x hx e => (h1 b1 xb1).2.1 (e ▸ hx)
  have eb1 : b ≠ b1 := fun e => nX b1 (h1 _ xb1).1 e.symm
  have eb3 : b ≠ b3 := fun e => nX b3 (h3 _ xb3) e.symm
  refine ⟨fun x => X1 x ∨ x = b, X2, X3, fun x hx => ?_, fun x hx => ⟨Or.inl (h2 x hx).1, (h2 x hx).2⟩, fun x hx => Or.inl (h3 x hx), ⟨by show 12 ≤ _; omega, fun _ => ⟨b1, fun t => if t = i then b else F t, fun t => if t = i then cc else k t, Or.inl xb1, rfl, ?_, fun t ht => ?_, fun t u ht hu htu => ?_⟩⟩, ((c.blw hb).mod mA n21).mod mB n2, ⟨by show 12 ≤ _; omega, fun _ => ⟨b3, xb3, rfl, ?_⟩⟩⟩
  · rcases hx with hx | rfl
    · exact ⟨Or.inl (h1 x hx).1, (h1 x hx).2⟩
    · exact ⟨Or.inr ⟨hlo, by simpa [World.setCell] using hhi⟩, fun e => nX x (h2 x e).1 rfl, fun e => nX x (h3 x e) rfl⟩
  · exact (((r1.blw hb).set i (.slice (some ⟨b, 0, none⟩) 4 cc)).mod mB (n1 _ xb1)).congr (fun t ht => by
      show (if t = i then Value.slice (some ⟨b, 0, none⟩) 4 cc else .slice (some ⟨F t, 0, none⟩) 4 (k t)) = .slice (some ⟨if t = i then b else F t, 0, none⟩) 4 (if t = i then cc else k t)
      by_cases e : t = i <;> simp [e])
  · obtain ⟨-, xt, ht1, rt⟩ := hl t ht
    by_cases e : t = i
    · subst e
      simp only [if_true]
      exact ⟨by show 4 ≤ _; omega, Or.inr trivial, eb1, ((hrow.mod mA eb1).mod mB eb3).congr (fun j hj => by simp [flS, MD.full])⟩
    · simp only [if_neg e]
      exact ⟨by show 4 ≤ _; omega, Or.inl xt, ht1, (((rt.blw hb).mod mA ht1).mod mB (n1 _ xt)).congr (fun j hj => by simp [flS, MD.full, e])⟩
  · obtain ⟨-, xt, -, -⟩ := hl t ht
    obtain ⟨-, xu, -, -⟩ := hl u hu
    by_cases e : t = i
    · have e' : ¬ u = i := fun h => htu (e.trans h.symm)
      simp only [if_pos e, if_neg e']
      exact fun h => nX _ (h1 _ xu).1 h.symm
    · by_cases e' : u = i
      · simp only [if_neg e, if_pos e']
        exact nX _ (h1 _ xt).1
      · simp only [if_neg e, if_neg e']
        exact hd t u ht hu htu
  · exact (((r3.blw hb).mod mA (fun e => n1 _ xb1 e.symm)).set i (.bool false)).congr (fun t ht => by
      show (if t = i then Value.bool false else .bool (d t)) = .bool (flD d i t)
      unfold flD
      by_cases e : t = i <;> simp [e])
set_option maxRecDepth 10000 in
set_option maxHeartbeats 1600000 in
theorem l1Flush_any (m : MV) (sv cv : Nat → Nat → Int) (d : Nat → Bool) (X : Nat → Prop) (w : World) (i : Nat) (hi : i < 12) (h : MemOwn X w m (MD.full sv cv d)) (hX : ∀ b, X b → b < w.heap.size) :
    Calls Try.prog 99 #[m.val (MD.full sv cv d), .int .i64 i] w fun e w' => (∃ v, e = .returned v) ∧ MemOwn (fun b => X b ∨ (w.heap.size ≤ b ∧ b < w'.heap.size)) w' m (MD.full (flS sv cv i) cv (flD d i)) ∧ Mod X w w' := by
  obtain ⟨X1, X2, X3, h1', h2', h3', s, c, d'⟩ := h.ex
  obtain ⟨a1, a2, a3, c1, c2, c3⟩ := m
  clear h
  simp only [MV.val, MD.full] at *
  obtain ⟨b1, F1, k1, xb1, rfl, r1, hl1, hd1⟩ := s.2 (by omega)
  have c0 := c
  obtain ⟨b2, F2, k2, xb2, rfl, r2, hl2, hd2⟩ := c.2 (by omega)
  obtain ⟨b3, xb3, rfl, r3⟩ := d'.2 (by omega)
  clear s c d'
  have hb0 : Blw w (w.alloc (.cells #[.slice (some ⟨b1, 0, none⟩) 12 c1, .slice (some ⟨b2, 0, none⟩) 12 c2, .slice (some ⟨b3, 0, none⟩) 12 c3] 26)) := (Blw.refl _).alloc _
  have rB := box3 w (.slice (some ⟨b1, 0, none⟩) 12 c1) (.slice (some ⟨b2, 0, none⟩) 12 c2) (.slice (some ⟨b3, 0, none⟩) 12 c3) 26
  have hI : ¬ (12 ≤ (i : Int)) := by omega
  have hI2 : (i : Int) < 12 := by omega
  go_enter Try.func99, Try.ntmps99
  go_wp2_with fail
  have hz : w.heap.size < (w.alloc (.cells #[.slice (some ⟨b1, 0, none⟩) 12 c1, .slice (some ⟨b2, 0, none⟩) 12 c2, .slice (some ⟨b3, 0, none⟩) 12 c3] 26)).heap.size := by simp
  revert hb0 rB hz
  generalize w.alloc (.cells #[.slice (some ⟨b1, 0, none⟩) 12 c1, .slice (some ⟨b2, 0, none⟩) 12 c2, .slice (some ⟨b3, 0, none⟩) 12 c3] 26) = W0
  intro hb0 rB hz
  replace r1 := r1.blw hb0
  replace r2 := r2.blw hb0
  replace r3 := r3.blw hb0
  replace c0 := c0.blw hb0
  replace hl1 : ∀ i, i < 12 → 4 ≤ 9223372036854775807 ∧ X1 (F1 i) ∧ F1 i ≠ b1 ∧ Row W0 (F1 i) 4 (fun t => .int .i64 (sv i t)) := fun i hi => let ⟨g1, g2, g3, g4⟩ := hl1 i hi; ⟨g1, g2, g3, g4.blw hb0⟩
  replace hl2 : ∀ i, i < 12 → 4 ≤ 9223372036854775807 ∧ X2 (F2 i) ∧ F2 i ≠ b2 ∧ Row W0 (F2 i) 4 (fun t => .int .i64 (cv i t)) := fun i hi => let ⟨g1, g2, g3, g4⟩ := hl2 i hi; ⟨g1, g2, g3, g4.blw hb0⟩
  have n21 : ∀ x, X2 x → ¬ x = b1 := fun x hx e => (h1' b1 xb1).2.1 (e ▸ hx)
  have bb1 := hX _ (h1' _ xb1).1
  have bb3 := hX _ (h3' _ xb3)
  have HF : Hid (∀ w2 b cc, Blw W0 w2 → w.heap.size ≤ b → b < w2.heap.size → Row w2 b 4 (fun t => .int .i64 (cv i t)) → _) := fun w2 b cc hb hlo hhi hrow => own_flushed (cc := cc) (c1 := c1) (c2 := c2) (c3 := c3) hi h1' h2' h3' hX hb xb1 r1 hl1 hd1 c0 xb3 r3 hlo hhi hrow
  have RA0 : ∀ w', Mod (fun x => x = b1) W0 w' → w'.cell? ⟨w.heap.size, 0, none⟩ = some (.slice (some ⟨b1, 0, none⟩) 12 c1) := fun w' hS => (get3 (rB.mod hS (by omega))).1
  have RA1 : ∀ w', Mod (fun x => x = b1) W0 w' → w'.cell? ⟨w.heap.size, 1, none⟩ = some (.slice (some ⟨b2, 0, none⟩) 12 c2) := fun w' hS => (get3 (rB.mod hS (by omega))).2.1
  have RA2 : Hid (∀ w', Mod (fun x => x = b1) W0 w' → w'.cell? ⟨w.heap.size, 2, none⟩ = some (.slice (some ⟨b3, 0, none⟩) 12 c3)) := fun w' hS => (get3 (rB.mod hS (by omega))).2.2
  have RB : ∀ w', Mod (fun x => x = b1) W0 w' → w'.cell? ⟨b2, i, none⟩ = some (.slice (some ⟨F2 i, 0, none⟩) 4 (k2 i)) := fun w' hS => (r2.mod hS (n21 _ xb2)).cell hi
  have RC : Hid (∀ w', Mod (fun x => x = b1) W0 w' → ∀ t, t < 4 → w'.cell? ⟨F2 i, 0 + t, none⟩ = some (.int .i64 (cv i t))) := fun w' hS t ht => by
    rw [Nat.zero_add]
    exact ((hl2 i hi).2.2.2.mod hS (n21 _ (hl2 i hi).2.1)).cell ht
  have R3 : Hid (∀ w', Mod (fun x => x = b1) W0 w' → Row w' b3 12 (fun i => .bool (d i))) := fun w' hS => r3.mod hS (fun e => (h1' _ xb1).2.2 (e ▸ xb3))
  have XX : Hid (X b1 ∧ X b3) := ⟨(h1' _ xb1).1, h3' _ xb3⟩
  clear hl1 hl2 hd1 hd2 r2 r3 rB c0 n21 h1' h2' h3' hX
  refine wp_region_noPanic ?_
  refine wp_region_held_drew (S := fun w' => Mod (fun x => x = b1) W0 w') (by kernel_rfl) ((Blw.refl W0).drew.mod _) (fun hS1 => ?_)
  have h1 : Blw W0 W0.drew := (Blw.refl W0).drew
  revert hS1 h1
  generalize W0.drew = w1
  intro hS1 h1
  refine wpAnyH_take (i := 0) (oi := { dst := some 4, op := Op.fieldAddr 26 (Operand.tmp 2) 0, type := 0, pos := _, after := #[], guard := none }) (v := .pointer (some ⟨w.heap.size, 0, none⟩)) rfl (by kernel_rfl) (by kernel_rfl) (by kernel_rfl) (fun _ _ _ h => h) (Or.inl ⟨by rfl, fun w' hS => by (try dsimp only at hS); go_simp⟩) hS1 ?_
  simp only [Act.put, List.setIfInBounds_toArray, List.set_cons_zero, List.set_cons_succ]
  refine wpAnyH_take (i := 1) (oi := { dst := some 5, op := Op.load 23 (Operand.tmp 4), type := 23, pos := _, after := #[{ on := 0, ground := Ground.data }], guard := none }) (v := .slice (some ⟨b1, 0, none⟩) 12 c1) rfl (by kernel_rfl) (by kernel_rfl) (by kernel_rfl) (fun _ _ _ h => h) (Or.inl ⟨by rfl, fun w' hS => by (try dsimp only at hS); go_simp⟩) hS1 ?_
  simp only [Act.put, List.setIfInBounds_toArray, List.set_cons_zero, List.set_cons_succ]
  refine wpAnyH_take (i := 2) (oi := { dst := some 6, op := Op.move (Operand.tmp 1), type := 3, pos := _, after := #[], guard := none }) (v := .int .i64 i) rfl (by kernel_rfl) (by kernel_rfl) (by kernel_rfl) (fun _ _ _ h => h) (Or.inl ⟨by rfl, fun w' hS => by (try dsimp only at hS); go_simp⟩) hS1 ?_
  simp only [Act.put, List.setIfInBounds_toArray, List.set_cons_zero, List.set_cons_succ]
  refine wpAnyH_take (i := 3) (oi := { dst := some 7, op := Op.fieldAddr 26 (Operand.tmp 2) 1, type := 0, pos := _, after := #[], guard := none }) (v := .pointer (some ⟨w.heap.size, 1, none⟩)) rfl (by kernel_rfl) (by kernel_rfl) (by kernel_rfl) (fun _ _ _ h => h) (Or.inl ⟨by rfl, fun w' hS => by (try dsimp only at hS); go_simp⟩) hS1 ?_
  simp only [Act.put, List.setIfInBounds_toArray, List.set_cons_zero, List.set_cons_succ]
  refine wpAnyH_take (i := 4) (oi := { dst := some 8, op := Op.load 23 (Operand.tmp 7), type := 23, pos := _, after := #[{ on := 3, ground := Ground.data }], guard := none }) (v := .slice (some ⟨b2, 0, none⟩) 12 c2) rfl (by kernel_rfl) (by kernel_rfl) (by kernel_rfl) (fun _ _ _ h => h) (Or.inl ⟨by rfl, fun w' hS => by (try dsimp only at hS); go_simp⟩) hS1 ?_
  simp only [Act.put, List.setIfInBounds_toArray, List.set_cons_zero, List.set_cons_succ]
  refine wpAnyH_take (i := 5) (oi := { dst := some 9, op := Op.move (Operand.tmp 1), type := 3, pos := _, after := #[], guard := none }) (v := .int .i64 i) rfl (by kernel_rfl) (by kernel_rfl) (by kernel_rfl) (fun _ _ _ h => h) (Or.inl ⟨by rfl, fun w' hS => by (try dsimp only at hS); go_simp⟩) hS1 ?_
  simp only [Act.put, List.setIfInBounds_toArray, List.set_cons_zero, List.set_cons_succ]
  refine wpAnyH_take (i := 6) (oi := { dst := some 10, op := Op.indexAddr 23 (Operand.tmp 8) (Operand.tmp 9), type := 0, pos := _, after := #[{ on := 4, ground := Ground.data }, { on := 5, ground := Ground.data }], guard := none }) (v := .pointer (some ⟨b2, i, none⟩)) rfl (by kernel_rfl) (by kernel_rfl) (by kernel_rfl) (fun _ _ _ h => h) (Or.inl ⟨by rfl, fun w' hS => by (try dsimp only at hS); go_simp⟩) hS1 ?_
  simp only [Act.put, List.setIfInBounds_toArray, List.set_cons_zero, List.set_cons_succ]
  refine wpAnyH_take (i := 7) (oi := { dst := some 11, op := Op.load 126 (Operand.tmp 10), type := 126, pos := _, after := #[{ on := 6, ground := Ground.data }], guard := none }) (v := .agg #[.slice (some ⟨F2 i, 0, none⟩) 4 (k2 i)]) rfl (by kernel_rfl) (by kernel_rfl) (by kernel_rfl) (fun _ _ _ h => h) (Or.inl ⟨by rfl, fun w' hS => by (try dsimp only at hS); go_simp⟩) hS1 ?_
  simp only [Act.put, List.setIfInBounds_toArray, List.set_cons_zero, List.set_cons_succ]
  refine wpAnyH_ready (rs := [8]) (by kernel_rfl) (by simp) ?_
  refine AllReadyH.cons (o := { dst := some 12, op := Op.call { callee := Callee.value (Operand.func 100), args := #[Operand.tmp 11], argTypes := #[126] }, type := 126, pos := _, after := #[{ on := 7, ground := Ground.data }], guard := none }) rfl (fun K hK => ?_) AllReadyH.nil
  go_simp
  refine (l1Copy_any _ _ _ 4 (cv i) _ (by omega) (by omega) (RC.out _ hS1)).mono ?_
  rintro e w2 ⟨b, cc, rfl, hlo0, hhi, hrow, hb2⟩
  have h2 := h1.trans hb2
  have hlo : W0.heap.size ≤ b := by have := h1.size; omega
  refine hK.out _ _ (h2.mod _) (fun hS2 => ?_)
  clear hK K hlo0 hb2
  try simp only [Act.put, List.setIfInBounds_toArray, List.set_cons_zero, List.set_cons_succ]
  refine wpAnyH_take (i := 9) (oi := { dst := some 13, op := Op.indexAddr 23 (Operand.tmp 5) (Operand.tmp 6), type := 0, pos := _, after := #[{ on := 1, ground := Ground.data }, { on := 2, ground := Ground.data }, { on := 0, ground := Ground.phase }, { on := 1, ground := Ground.phase }, { on := 2, ground := Ground.phase }, { on := 3, ground := Ground.phase }, { on := 4, ground := Ground.phase }, { on := 5, ground := Ground.phase }, { on := 6, ground := Ground.phase }, { on := 7, ground := Ground.phase }, { on := 8, ground := Ground.phase }], guard := none }) (v := .pointer (some ⟨b1, i, none⟩)) rfl (by kernel_rfl) (by kernel_rfl) (by kernel_rfl) (fun _ _ _ h => h) (Or.inl ⟨by rfl, fun w' hS => by (try dsimp only at hS); go_simp⟩) hS2 ?_
  simp only [Act.put, List.setIfInBounds_toArray, List.set_cons_zero, List.set_cons_succ]
  have qq0 := (r1.blw h2).cell (i := i) hi
  have qq1 := (r1.blw h2).frozen i
  refine wpAnyH_ready (rs := [10]) (by kernel_rfl) (by simp) ?_
  refine AllReadyH.cons (o := { dst := none, op := Op.store 126 (Operand.tmp 13) (Operand.tmp 12), type := 0, pos := _, after := #[{ on := 9, ground := Ground.data }, { on := 8, ground := Ground.data }, { on := 8, ground := Ground.chain }, { on := 0, ground := Ground.phase }, { on := 1, ground := Ground.phase }, { on := 2, ground := Ground.phase }, { on := 3, ground := Ground.phase }, { on := 4, ground := Ground.phase }, { on := 5, ground := Ground.phase }, { on := 6, ground := Ground.phase }, { on := 7, ground := Ground.phase }, { on := 8, ground := Ground.phase }], guard := none }) rfl (fun K hK => ?_) AllReadyH.nil
  go_simp
  refine hK.out _ _ (hS2.trans (Mod.setCell (X := fun x => x = b1) _ (p := ⟨b1, i, none⟩) rfl _)) (fun hSe => ?_)
  clear hK K qq0 qq1 hSe
  refine wpAnyH_done (by kernel_rfl) ?_ _
  refine NoPanic.normal ?_
  have hSA := hS2.trans (Mod.setCell (X := fun x => x = b1) w2 (p := ⟨b1, i, none⟩) rfl (.slice (some ⟨b, 0, none⟩) 4 cc))
  have p2 := RA2.out _ hSA
  have q3 := (R3.out _ hSA).cell (i := i) hi
  have q3f := (R3.out _ hSA).frozen i
  have OWN : Hid _ := HF.out w2 b cc h2 (by omega) hhi hrow
  have hM : Hid (Mod X w ((w2.setCell ⟨b1, i, none⟩ (.slice (some ⟨b, 0, none⟩) 4 cc)).setCell ⟨b3, i, none⟩ (.bool false))) :=
    (((hb0.trans h2).mod X).trans (Mod.setCell (X := X) _ (p := ⟨b1, i, none⟩) XX.out.1 _)).trans (Mod.setCell (X := X) _ (p := ⟨b3, i, none⟩) XX.out.2 _)
  clear hSA RA0 RA1 RA2 RB RC R3 HF r1 hS1 hS2 h1 h2 hrow hlo hhi bb1 bb3
  go_wp2
  refine bodyPost_end (results_none rfl _ _ _) rfl ?_
  exact ⟨⟨_, rfl⟩, OWN.out, hM.out⟩
end Go.Proofs.Ytglllnklcnlcjaa
