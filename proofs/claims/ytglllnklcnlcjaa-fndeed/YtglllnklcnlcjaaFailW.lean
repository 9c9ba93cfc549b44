/- 'spec.l1Fail': a line of the cache that is as its line of what is sure. -/
import Derived.Test.YtglllnklcnlcjaaRise
import Derived.Test.YtglllnklcnlcjaaWhole
namespace Go.Proofs.Ytglllnklcnlcjaa
open Go.RowKit
set_option linter.unusedSimpArgs false
theorem own_backed {X X1 X2 X3 : Nat → Prop} {w1 w2 : World} {sv cv : Nat → Nat → Int} {d : Nat → Bool} {a1 : Option Addr} {b2 b3 c1 c2 c3 i b cc N : Nat} {F k : Nat → Nat} (hi : i < 12)
    (h1 : ∀ b, X1 b → X b ∧ ¬ X2 b ∧ ¬ X3 b) (h2 : ∀ b, X2 b → X b ∧ ¬ X3 b) (h3 : ∀ b, X3 b → X b) (hX : ∀ b, X b → b < N) (hb : Blw w1 w2)
    (xb2 : X2 b2) (r2 : Row w1 b2 12 (fun i => .slice (some ⟨F i, 0, none⟩) 4 (k i)))
    (hl : ∀ i, i < 12 → 4 ≤ 9223372036854775807 ∧ X2 (F i) ∧ F i ≠ b2 ∧ Row w1 (F i) 4 (fun t => .int .i64 (cv i t))) (hd : ∀ i j, i < 12 → j < 12 → i ≠ j → F i ≠ F j)
    (s : LinesOwn X1 w1 a1 12 (fun _ => 4) sv) (xb3 : X3 b3) (r3 : Row w1 b3 12 (fun i => .bool (d i))) (hlo : N ≤ b) (hhi : b < w2.heap.size) (hrow : Row w2 b 4 (fun t => .int .i64 (sv i t))) :
    MemOwn (fun x => X x ∨ (N ≤ x ∧ x < ((w2.setCell ⟨b2, i, none⟩ (.slice (some ⟨b, 0, none⟩) 4 cc)).setCell ⟨b3, i, none⟩ (.bool false)).heap.size)) ((w2.setCell ⟨b2, i, none⟩ (.slice (some ⟨b, 0, none⟩) 4 cc)).setCell ⟨b3, i, none⟩ (.bool false)) ⟨a1, some ⟨b2, 0, none⟩, some ⟨b3, 0, none⟩, c1, c2, c3⟩ (MD.full sv (flS cv sv i) (flD d i)) := by
  have nX : ∀ x, X x → x ≠ b := fun x hx e => by have := hX x hx; omega
  have mA := Mod.setCell (X := fun x => x = b2) w2 (p := ⟨b2, i, none⟩) rfl (.slice (some ⟨b, 0, none⟩) 4 cc)
  have mB := Mod.setCell (X := fun x => x = b3) (w2.setCell ⟨b2, i, none⟩ (.slice (some ⟨b, 0, none⟩) 4 cc)) (p := ⟨b3, i, none⟩) rfl (.bool false)
  have n1 : ∀ x, X1 x → ¬ x = b3 := fun x hx e => (h1 x hx).2.2 (e ▸ xb3)
  have n2 : ∀ x, X2 x → ¬ x = b3 := fun x hx e => (h2 x hx).2 (e ▸ xb3)
  have n12 : ∀ x, X1 x → ¬ x = b2 := fun x hx e => (h1 x hx).2.1 (e ▸ xb2)
  have eb2 : b ≠ b2 := fun e => nX b2 (h2 _ xb2).1 e.symm
  have eb3 : b ≠ b3 := fun e => nX b3 (h3 _ xb3) e.symm
  refine ⟨X1, fun x => X2 x ∨ x = b, X3, fun x hx => ⟨Or.inl (h1 x hx).1, fun hh => hh.elim (h1 x hx).2.1 (nX x (h1 x hx).1), (h1 x hx).2.2⟩, fun x hx => ?_, fun x hx => Or.inl (h3 x hx), ((s.blw hb).mod mA n12).mod mB n1, ⟨by show 12 ≤ _; omega, fun _ => ⟨b2, fun t => if t = i then b else F t, fun t => if t = i then cc else k t, Or.inl xb2, rfl, ?_, fun t ht => ?_, fun t u ht hu htu => ?_⟩⟩, ⟨by show 12 ≤ _; omega, fun _ => ⟨b3, xb3, rfl, ?_⟩⟩⟩
  · rcases hx with hx | rfl
    · exact ⟨Or.inl (h2 x hx).1, (h2 x hx).2⟩
    · exact ⟨Or.inr ⟨hlo, by simpa [World.setCell] using hhi⟩, fun e => nX x (h3 x e) rfl⟩
  · exact (((r2.blw hb).set i (.slice (some ⟨b, 0, none⟩) 4 cc)).mod mB (n2 _ xb2)).congr (fun t ht => by
      show (if t = i then Value.slice (some ⟨b, 0, none⟩) 4 cc else .slice (some ⟨F t, 0, none⟩) 4 (k t)) = .slice (some ⟨if t = i then b else F t, 0, none⟩) 4 (if t = i then cc else k t)
      by_cases e : t = i <;> simp [e])
  · obtain ⟨-, xt, ht1, rt⟩ := hl t ht
    by_cases e : t = i
    · subst e
      simp only [if_true]
      exact ⟨by show 4 ≤ _; omega, Or.inr trivial, eb2, ((hrow.mod mA eb2).mod mB eb3).congr (fun j hj => by simp [flS, MD.full])⟩
    · simp only [if_neg e]
      exact ⟨by show 4 ≤ _; omega, Or.inl xt, ht1, (((rt.blw hb).mod mA ht1).mod mB (n2 _ xt)).congr (fun j hj => by simp [flS, MD.full, e])⟩
  · obtain ⟨-, xt, -, -⟩ := hl t ht
    obtain ⟨-, xu, -, -⟩ := hl u hu
    by_cases e : t = i
    · have e' : ¬ u = i := fun h => htu (e.trans h.symm)
      simp only [if_pos e, if_neg e']
      exact fun h => nX _ (h2 _ xu).1 h.symm
    · by_cases e' : u = i
      · simp only [if_neg e, if_pos e']
        exact nX _ (h2 _ xt).1
      · simp only [if_neg e, if_neg e']
        exact hd t u ht hu htu
  · exact (((r3.blw hb).mod mA (fun e => n2 _ xb2 e.symm)).set i (.bool false)).congr (fun t ht => by
      show (if t = i then Value.bool false else .bool (d t)) = .bool (flD d i t)
      unfold flD
      by_cases e : t = i <;> simp [e])
/-- What the store into the cache wants of an owned memory. -/
theorem back_facts {X : Nat → Prop} {W0 : World} {m : MV} {sv cv : Nat → Nat → Int} {d : Nat → Bool} {k : Nat} (h : MemOwn X W0 m (MD.full sv cv d)) (hX : ∀ b, X b → b < W0.heap.size) (hk : k < 12) :
    ∃ b1 F1 k1 b2 b3, m.a1 = some ⟨b1, 0, none⟩ ∧ m.a2 = some ⟨b2, 0, none⟩ ∧ m.a3 = some ⟨b3, 0, none⟩ ∧
      (∃ F kk : Nat → Nat, Row W0 b2 12 (fun i => .slice (some ⟨F i, 0, none⟩) 4 (kk i))) ∧
      (∀ w', Mod (fun x => x = b2) W0 w' → w'.cell? ⟨b1, k, none⟩ = some (.slice (some ⟨F1, 0, none⟩) 4 k1)) ∧
      (∀ w', Mod (fun x => x = b2) W0 w' → ∀ t, t < 4 → w'.cell? ⟨F1, 0 + t, none⟩ = some (.int .i64 (sv k t))) ∧
      (∀ w', Mod (fun x => x = b2) W0 w' → Row w' b3 12 (fun i => .bool (d i))) ∧ (X b2 ∧ X b3) ∧ True ∧
      ∀ w2 b cc c1 c2 c3, Blw W0 w2 → W0.heap.size ≤ b → b < w2.heap.size → Row w2 b 4 (fun t => .int .i64 (sv k t)) →
        MemOwn (fun x => X x ∨ (W0.heap.size ≤ x ∧ x < ((w2.setCell ⟨b2, k, none⟩ (.slice (some ⟨b, 0, none⟩) 4 cc)).setCell ⟨b3, k, none⟩ (.bool false)).heap.size)) ((w2.setCell ⟨b2, k, none⟩ (.slice (some ⟨b, 0, none⟩) 4 cc)).setCell ⟨b3, k, none⟩ (.bool false)) ⟨m.a1, some ⟨b2, 0, none⟩, some ⟨b3, 0, none⟩, c1, c2, c3⟩ (MD.full sv (flS cv sv k) (flD d k)) := by
  obtain ⟨X1, X2, X3, h1, h2, h3, s, c, d'⟩ := h.ex
  have s0 := s
  obtain ⟨b1, F1, k1, xb1, e1, r1, hl1, hd1⟩ := s.2 (by show 0 < 12; omega)
  obtain ⟨b2, F2, k2, xb2, e2, r2, hl2, hd2⟩ := c.2 (by show 0 < 12; omega)
  obtain ⟨b3, xb3, e3, r3⟩ := d'.2 (by show 0 < 12; omega)
  have n12 : ∀ x, X1 x → ¬ x = b2 := fun x hx e => (h1 x hx).2.1 (e ▸ xb2)
  refine ⟨b1, F1 k, k1 k, b2, b3, e1, e2, e3, ⟨F2, k2, r2⟩, fun w' hS => (r1.mod hS (n12 _ xb1)).cell hk, fun w' hS t ht => ?_, fun w' hS => r3.mod hS (fun e => (h2 _ xb2).2 (e ▸ xb3)), ⟨(h2 _ xb2).1, h3 _ xb3⟩, trivial, fun w2 b cc c1 c2 c3 hb hlo hhi hrow => own_backed (cc := cc) hk h1 h2 h3 hX hb xb2 r2 hl2 hd2 s0 xb3 r3 hlo hhi hrow⟩
  rw [Nat.zero_add]
  exact ((hl1 k hk).2.2.2.mod hS (n12 _ (hl1 k hk).2.1)).cell ht
theorem Mine.next {w wr w' : World} {z : Nat} {m : MV} {s c s' c' : Nat → Nat → Int} {d d' : Nat → Bool} {X : Nat → Prop} (h : Mine w wr z m s c d) (hx : ∀ b, X b → w.heap.size + 1 < b ∧ b < wr.heap.size ∧ b ≠ z) (own : MemOwn (fun b => X b ∨ (wr.heap.size ≤ b ∧ b < w'.heap.size)) w' m (MD.full s' c' d')) (hm : Mod X wr w') : Mine w w' z m s' c' d' := by
  have hzl := h.box.lt
  have hr := h.res.lt
  have hs := hm.size
  have hzz := h.zz
  refine ⟨⟨_, own, fun b hb => ?_⟩, h.box.mod hm (fun e => (hx z e).2.2 rfl), h.res.mod hm (fun e => by have := (hx _ e).1; omega), Mod.blw h.blw hm (fun i hi => by have := (hx i hi).1; omega), h.zz⟩
  rcases hb with hb | hb
  · have := hx b hb
    exact ⟨by omega, by omega, this.2.2⟩
  · exact ⟨by omega, by omega, by omega⟩
open Classical in
/-- The first k lines behind a failure, those of P kept. -/
noncomputable def fpS (s c : Nat → Nat → Int) (P : Nat → Prop) (k : Nat) : Nat → Nat → Int := fun i j => if i < k then (if P i then c i j else s i j) else s i j
open Classical in
noncomputable def fpC (s c : Nat → Nat → Int) (P : Nat → Prop) (k : Nat) : Nat → Nat → Int := fun i j => if i < k then (if P i then c i j else s i j) else c i j
theorem fpS_zero (s c : Nat → Nat → Int) (P : Nat → Prop) : fpS s c P 0 = s := by
  funext i j
  simp [fpS]
theorem fpC_zero (s c : Nat → Nat → Int) (P : Nat → Prop) : fpC s c P 0 = c := by
  funext i j
  simp [fpC]
theorem fpS_yes {s c : Nat → Nat → Int} {P : Nat → Prop} {k : Nat} (h : P k) : flS (fpS s c P k) (fpC s c P k) k = fpS s c P (k + 1) := by
  funext i j
  unfold flS fpS fpC
  by_cases e : i = k
  · subst e
    simp [h]
  · by_cases h2 : i < k
    · have h3 : i < k + 1 := by omega
      simp [e, h2, h3]
    · have h3 : ¬ i < k + 1 := by omega
      simp [e, h2, h3]
theorem fpS_no {s c : Nat → Nat → Int} {P : Nat → Prop} {k : Nat} (h : ¬ P k) : fpS s c P k = fpS s c P (k + 1) := by
  funext i j
  unfold fpS
  by_cases e : i = k
  · subst e
    simp [h]
  · by_cases h2 : i < k
    · have h3 : i < k + 1 := by omega
      simp [h2, h3]
    · have h3 : ¬ i < k + 1 := by omega
      simp [h2, h3]
theorem fpC_next {s c : Nat → Nat → Int} {P : Nat → Prop} {k : Nat} : flS (fpC s c P k) (fpS s c P (k + 1)) k = fpC s c P (k + 1) := by
  funext i j
  unfold flS fpS fpC
  by_cases e : i = k
  · subst e
    by_cases hp : P i <;> simp [hp]
  · by_cases h2 : i < k
    · have h3 : i < k + 1 := by omega
      simp [e, h2, h3]
    · have h3 : ¬ i < k + 1 := by omega
      simp [e, h2, h3]
theorem flD_twice (d : Nat → Bool) (k : Nat) : flD (flD d k) k = flD d k := by
  funext i
  unfold flD
  by_cases e : i = k <;> simp [e]
end Go.Proofs.Ytglllnklcnlcjaa
