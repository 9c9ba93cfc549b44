/- A word that is stored: in owned memory, and in a memory held as a value. -/
import Derived.Test.YtglllnklcnlcjaaOwnM
import Derived.Test.YtglllnklcnlcjaaXLoad
namespace Go.Proofs.Ytglllnklcnlcjaa
open Go.RowKit
set_option linter.unusedSimpArgs false
/-- The zero answer. -/
def MZ : MD := ⟨0, 0, 0, fun _ => 0, fun _ => 0, fun _ _ => 0, fun _ _ => 0, fun _ => false⟩
def mz : MV := ⟨none, none, none, 0, 0, 0⟩
theorem own_zero (X : Nat → Prop) (w : World) : MemOwn X w mz MZ :=
  ⟨fun _ => False, fun _ => False, fun _ => False, fun _ h => h.elim, fun _ h => h.elim, fun _ h => h.elim, ⟨by show 0 ≤ _; omega, fun h => absurd h (Nat.lt_irrefl 0)⟩, ⟨by show 0 ≤ _; omega, fun h => absurd h (Nat.lt_irrefl 0)⟩, ⟨by show 0 ≤ _; omega, fun h => absurd h (Nat.lt_irrefl 0)⟩⟩
theorem own_out {X : Nat → Prop} {w w2 w3 : World} {m : MV} {M : MD} {R : Nat} (own : MemOwn X w2 m M) (hx : ∀ b, X b → R < b ∧ b < w2.heap.size) (hm : Mod (fun x => x = R) w2 w3) (hR : w.heap.size ≤ R) :
    MemOwn (fun b => w.heap.size ≤ b ∧ b < w3.heap.size) w3 m M :=
  (own.mod hm (fun b hb e => by have := hx b hb; omega)).mono (fun b hb => by have := hx b hb; have := hm.size; exact ⟨by omega, by omega⟩)
theorem mod_set3 (w : World) (R : Nat) (a b c : Value) : Mod (fun x => x = R) w (((w.setCell ⟨R, 0, none⟩ a).setCell ⟨R, 1, none⟩ b).setCell ⟨R, 2, none⟩ c) :=
  ((Mod.setCell (X := fun x => x = R) w (p := ⟨R, 0, none⟩) rfl _).trans (Mod.setCell (X := fun x => x = R) _ (p := ⟨R, 1, none⟩) rfl _)).trans (Mod.setCell (X := fun x => x = R) _ (p := ⟨R, 2, none⟩) rfl _)
/-- One word of the cache, and its mark. -/
def stC (c : Nat → Nat → Int) (n : Nat) (x : Int) : Nat → Nat → Int := fun i j => if i = n / 4 ∧ j = n % 4 then x else c i j
def stD (d : Nat → Bool) (n : Nat) : Nat → Bool := fun i => if i = n / 4 then true else d i
theorem own_stored {X X1 X2 X3 : Nat → Prop} {w1 : World} {a1 : Option Addr} {sv cv : Nat → Nat → Int} {d : Nat → Bool} {b2 b3 c1 c2 c3 n : Nat} {F cc : Nat → Nat} (x : Int) (hn : n < 48)
    (h1 : ∀ b, X1 b → X b ∧ ¬ X2 b ∧ ¬ X3 b) (h2 : ∀ b, X2 b → X b ∧ ¬ X3 b) (h3 : ∀ b, X3 b → X b) (s : LinesOwn X1 w1 a1 12 (fun _ => 4) sv) (xb2 : X2 b2) (r2 : Row w1 b2 12 (fun i => .slice (some ⟨F i, 0, none⟩) 4 (cc i)))
    (hl : ∀ i, i < 12 → 4 ≤ 9223372036854775807 ∧ X2 (F i) ∧ F i ≠ b2 ∧ Row w1 (F i) 4 (fun t => .int .i64 (cv i t))) (hd : ∀ i j, i < 12 → j < 12 → i ≠ j → F i ≠ F j) (xb3 : X3 b3) (r3 : Row w1 b3 12 (fun i => .bool (d i))) :
    MemOwn X ((w1.setCell ⟨F (n / 4), n % 4, none⟩ (.int .i64 x)).setCell ⟨b3, n / 4, none⟩ (.bool true)) ⟨a1, some ⟨b2, 0, none⟩, some ⟨b3, 0, none⟩, c1, c2, c3⟩ (MD.full sv (stC cv n x) (stD d n)) := by
  have hq : n / 4 < 12 := by omega
  have hr : n % 4 < 4 := by omega
  obtain ⟨-, xF, hFb, rF⟩ := hl (n / 4) hq
  have mA := Mod.setCell (X := fun x => x = F (n / 4)) w1 (p := ⟨F (n / 4), n % 4, none⟩) rfl (.int .i64 x)
  have mB := Mod.setCell (X := fun x => x = b3) (w1.setCell ⟨F (n / 4), n % 4, none⟩ (.int .i64 x)) (p := ⟨b3, n / 4, none⟩) rfl (.bool true)
  have e3 : ∀ b, X2 b → ¬ b = b3 := fun b hb e => (h2 b hb).2 (e ▸ xb3)
  refine ⟨X1, X2, X3, h1, h2, h3, (s.mod mA (fun b hb e => (h1 b hb).2.1 (e ▸ xF))).mod mB (fun b hb e => (h1 b hb).2.2 (e ▸ xb3)), ⟨by show 12 ≤ _; omega, fun _ => ⟨b2, F, cc, xb2, rfl, (r2.mod mA (fun e => hFb e.symm)).mod mB (e3 _ xb2), fun i hi => ?_, hd⟩⟩, ⟨by show 12 ≤ _; omega, fun _ => ⟨b3, xb3, rfl, ?_⟩⟩⟩
  · obtain ⟨-, xi, hib, ri⟩ := hl i hi
    refine ⟨by show 4 ≤ _; omega, xi, hib, ?_⟩
    by_cases e : i = n / 4
    · subst e
      exact ((ri.set (n % 4) (.int .i64 x)).mod mB (e3 _ xi)).congr (fun t ht => by
        show (if t = n % 4 then Value.int .i64 x else .int .i64 (cv (n / 4) t)) = .int .i64 (stC cv n x (n / 4) t)
        unfold stC
        by_cases ht' : t = n % 4 <;> simp [ht'])
    · exact ((ri.mod mA (hd i (n / 4) hi hq e)).mod mB (e3 _ xi)).congr (fun t ht => by simp [stC, e, MD.full])
  · exact ((r3.mod mA (fun e => e3 _ xF e.symm)).set (n / 4) (.bool true)).congr (fun t ht => by
      show (if t = n / 4 then Value.bool true else .bool (d t)) = .bool (stD d n t)
      unfold stD
      by_cases ht' : t = n / 4 <;> simp [ht'])
set_option maxHeartbeats 800000 in
theorem l1Store_any (m : MV) (sv cv : Nat → Nat → Int) (d : Nat → Bool) (X : Nat → Prop) (w : World) (n : Nat) (x : Int) (hn : n < 48) (h : MemOwn X w m (MD.full sv cv d)) (hX : ∀ b, X b → b < w.heap.size) :
    Calls Try.prog 119 #[m.val (MD.full sv cv d), .int .i64 n, .int .i64 x] w fun e w' => (∃ v, e = .returned v) ∧ MemOwn X w' m (MD.full sv (stC cv n x) (stD d n)) ∧ Mod X w w' := by
  obtain ⟨X1, X2, X3, h1, h2, h3, s, c, d'⟩ := h.ex
  obtain ⟨a1, a2, a3, c1, c2, c3⟩ := m
  clear h
  simp only [MV.val, MD.full] at *
  obtain ⟨b2, F, cc, xb2, rfl, r2, hl, hd⟩ := c.2 (by omega)
  obtain ⟨b3, xb3, rfl, r3⟩ := d'.2 (by omega)
  clear c d'
  have hb0 : Blw w (w.alloc (.cells #[.slice a1 12 c1, .slice (some ⟨b2, 0, none⟩) 12 c2, .slice (some ⟨b3, 0, none⟩) 12 c3] 26)) := (Blw.refl _).alloc _
  have rB := box3 w (.slice a1 12 c1) (.slice (some ⟨b2, 0, none⟩) 12 c2) (.slice (some ⟨b3, 0, none⟩) 12 c3) 26
  replace s := s.blw hb0
  replace r2 := r2.blw hb0
  replace r3 := r3.blw hb0
  replace hl : ∀ i, i < 12 → 4 ≤ 9223372036854775807 ∧ X2 (F i) ∧ F i ≠ b2 ∧ Row _ (F i) 4 (fun t => .int .i64 (cv i t)) := fun i hi => let ⟨g1, g2, g3, g4⟩ := hl i hi; ⟨g1, g2, g3, g4.blw hb0⟩
  have hs := fun c1 c2 c3 => own_stored (c1 := c1) (c2 := c2) (c3 := c3) x hn h1 h2 h3 s xb2 r2 hl hd xb3 r3
  obtain ⟨-, xF, hFb, rF⟩ := hl (n / 4) (by omega)
  have bF := hX _ (h2 _ xF).1
  have b3lt := hX _ (h3 _ xb3)
  have q1 := r2.cell (i := n / 4) (by omega)
  have q2 := rF.cell (i := n % 4) (by omega)
  have q2f := rF.frozen (n % 4)
  have rB' := rB.setOther (a := ⟨F (n / 4), n % 4, none⟩) (by show w.heap.size ≠ F (n / 4); omega) (.int .i64 x)
  have p2 := (get3 rB').2.2
  have r3' := r3.setOther (a := ⟨F (n / 4), n % 4, none⟩) (by show b3 ≠ F (n / 4); exact fun e => (h2 _ xF).2 (e ▸ xb3)) (.int .i64 x)
  have q3 := r3'.cell (i := n / 4) (by omega)
  have q3f := r3'.frozen (n / 4)
  have hm : Mod X w ((((w.alloc (.cells #[.slice a1 12 c1, .slice (some ⟨b2, 0, none⟩) 12 c2, .slice (some ⟨b3, 0, none⟩) 12 c3] 26)).setCell ⟨F (n / 4), n % 4, none⟩ (.int .i64 x))).setCell ⟨b3, n / 4, none⟩ (.bool true)) :=
    ((hb0.mod X).trans (Mod.setCell (X := X) _ (p := ⟨F (n / 4), n % 4, none⟩) (h2 _ xF).1 _)).trans (Mod.setCell (X := X) _ (p := ⟨b3, n / 4, none⟩) (h3 _ xb3) _)
  have HS : Hid _ := hs c1 c2 c3
  have i1 : ((n : Int) / 4) < 12 := by omega
  have i2 : ((n : Int) % 4) < 4 := by omega
  clear hs rB rB' r2 r3 r3' rF hl hd hb0 s h1 h2 h3 hX bF b3lt
  go_enter Try.func119, Try.ntmps119
  go_wp2
  refine bodyPost_end (results_none rfl _ _ _) rfl ?_
  exact ⟨⟨_, rfl⟩, HS.out, hm⟩
theorem hcell_store {s c : Nat → Nat → Int} {d : Nat → Bool} {n : Nat} {x : Int} (hn : n < 48) (j : Nat) (hj : j < 108) :
    (if j = 96 + n / 4 then Value.bool true else if j = 48 + n / 4 * 4 + n % 4 then .int .i64 x else hcell s c d j) = hcell s (stC c n x) (stD d n) j := by
  unfold hcell
  by_cases h1 : j < 48
  · rw [if_neg (by omega), if_neg (by omega), if_pos h1, if_pos h1]
  · rw [if_neg h1, if_neg h1]
    by_cases h2 : j < 96
    · rw [if_neg (by omega), if_pos h2, if_pos h2]
      by_cases h3 : j = 48 + n / 4 * 4 + n % 4
      · rw [if_pos h3]
        unfold stC
        rw [if_pos (by omega)]
      · rw [if_neg h3]
        unfold stC
        rw [if_neg (by omega)]
    · rw [if_neg h2, if_neg h2]
      by_cases h3 : j = 96 + n / 4
      · rw [if_pos h3]
        unfold stD
        rw [if_pos (by omega)]
      · rw [if_neg h3, if_neg (by omega)]
        unfold stD
        rw [if_neg (by omega)]
set_option maxHeartbeats 800000 in
theorem storeWord_any (B : Nat) (s c : Nat → Nat → Int) (d : Nat → Bool) (n : Nat) (x : Int) (w : World) (hn : n < 48) (r : Row w B 108 (hcell s c d)) :
    Calls Try.prog 121 #[.pointer (some ⟨B, 0, none⟩), .int .i64 n, .int .i64 x] w fun e w' => (∃ v, e = .returned v) ∧ Row w' B 108 (hcell s (stC c n x) (stD d n)) ∧ Mod (fun b => b = B) w w' := by
  have g := r.cell (i := 48 + n / 4 * 4 + n % 4) (by omega)
  have gf := r.frozen (48 + n / 4 * 4 + n % 4)
  have r' := r.set (48 + n / 4 * 4 + n % 4) (.int .i64 x)
  have k := r'.cell (i := 96 + n / 4) (by omega)
  have kf := r'.frozen (96 + n / 4)
  have R : Hid (Row _ B 108 (hcell s (stC c n x) (stD d n))) := (r'.set (96 + n / 4) (.bool true)).congr (fun j hj => hcell_store hn j hj)
  have hm : Mod (fun b => b = B) w ((w.setCell ⟨B, 48 + n / 4 * 4 + n % 4, none⟩ (.int .i64 x)).setCell ⟨B, 96 + n / 4, none⟩ (.bool true)) :=
    (Mod.setCell (X := fun b => b = B) _ (p := ⟨B, 48 + n / 4 * 4 + n % 4, none⟩) rfl _).trans (Mod.setCell (X := fun b => b = B) _ (p := ⟨B, 96 + n / 4, none⟩) rfl _)
  have i1 : ((n : Int) / 4) < 12 := by omega
  have i2 : ((n : Int) % 4) < 4 := by omega
  clear r r'
  go_enter Try.func121, Try.ntmps121
  go_wp2
  refine bodyPost_end (results_none rfl _ _ _) rfl ?_
  exact ⟨⟨_, rfl⟩, R.out, hm⟩
end Go.Proofs.Ytglllnklcnlcjaa
