/- 'note' and 'write' of a held book. -/
import Derived.Test.YtagjfkkjmgfoiaaLog
namespace Go.Proofs.Ytagjfkkjmgfoiaa
open Go.RowKit Go.ChangeMaps
set_option linter.unusedSimpArgs false
set_option linter.unusedVariables false
def hcell (c : Nat → Int) (bm : Nat) : Nat → Value := fun i => if i < 8 then .int .i64 (c i) else .map (some bm)
/-- The held book at H: eight cells, and its log at bm. -/
structure Held (w : World) (H bm : Nat) (c : Nat → Int) (k : Nat) (lc lw : Nat → Int) : Prop where
  box : Row w H 9 (hcell c bm)
  log : LogAt w bm k lc lw
theorem Held.ne {w : World} {H bm k : Nat} {c lc lw : Nat → Int} (h : Held w H bm c k lc lw) : H ≠ bm := by
  obtain ⟨cs, t, hb, _⟩ := h.box
  intro e
  have := h.log
  rw [← e] at this
  unfold LogAt at this
  rw [hb] at this
  cases this
theorem Held.mod {X : Nat → Prop} {w w' : World} {H bm k : Nat} {c lc lw : Nat → Int} (h : Held w H bm c k lc lw) (hm : Mod X w w') (h1 : ¬ X H) (h2 : ¬ X bm) : Held w' H bm c k lc lw := ⟨h.box.mod hm h1, h.log.mod hm h2⟩
theorem Held.blw {w w' : World} {H bm k : Nat} {c lc lw : Nat → Int} (h : Held w H bm c k lc lw) (hb : Blw w w') : Held w' H bm c k lc lw := ⟨h.box.blw hb, h.log.blw hb⟩
theorem Held.c8 {w : World} {H bm k : Nat} {c lc lw : Nat → Int} (h : Held w H bm c k lc lw) : w.cell? ⟨H, 8, none⟩ = some (.map (some bm)) := by
  have := h.box.cell (i := 8) (by omega)
  simpa [hcell] using this
theorem Held.ci {w : World} {H bm k : Nat} {c lc lw : Nat → Int} (h : Held w H bm c k lc lw) {i : Nat} (hi : i < 8) : w.cell? ⟨H, i, none⟩ = some (.int .i64 (c i)) := by
  have := h.box.cell (i := i) (by omega)
  simpa [hcell, hi] using this
set_option maxHeartbeats 800000 in
theorem note_hit (H bm k : Nat) (c lc lw : Nat → Int) (i : Nat) (y : Int) (w : World) (h : Held w H bm c k lc lw) (hi : i < k) (hd : distinct k lc) :
    Calls Try.prog 80 #[.pointer (some ⟨H, 0, none⟩), .int .i64 (lc i), .int .i64 y] w fun e w' => e = .returned (.bool false) ∧ Blw w w' := by
  have p8 := h.c8
  have hl := h.log.hit2 hi hd
  clear h
  go_enter Try.func80, Try.ntmps80
  go_wp2
  go_ret
  exact ⟨rfl, (Blw.refl _).alloc _⟩
set_option maxHeartbeats 1600000 in
theorem note_miss (H bm k : Nat) (c lc lw : Nat → Int) (x y : Int) (w : World) (hk : k ≤ 9223372036854775806) (h : Held w H bm c k lc lw) (hx : ∀ i, i < k → lc i ≠ x) :
    Calls Try.prog 80 #[.pointer (some ⟨H, 0, none⟩), .int .i64 x, .int .i64 y] w fun e w' => e = .returned (.bool true) ∧ Held w' H bm c (k + 1) (snoc k lc x) (snoc k lw y) ∧ Mod (fun b => b = bm) w w' := by
  have hne := h.ne
  have p8 := h.c8
  have hl := h.log.miss2 hx
  have HH : Hid (Held w H bm c k lc lw) := h
  have HX : Hid (∀ i, i < k → lc i ≠ x) := hx
  clear h hx
  go_enter Try.func80, Try.ntmps80
  go_wp2
  have hb0 : Blw w (w.alloc (.cells #[.int .i64 0, .int .i64 0] 91)) := (Blw.refl _).alloc _
  have h1 := HH.out.blw hb0
  clear p8 hl
  revert hb0 h1
  generalize w.alloc (.cells #[.int .i64 0, .int .i64 0] 91) = w1
  intro hb0 h1
  have p8 := h1.c8
  have hlen := fun ty => h1.log.drew.len ty
  obtain ⟨w2, hu, hl2, hm2⟩ := h1.log.drew.put (y := y) HX.out
  go_region
  all_goals
    go_wp2
    go_ret
    have hm : Mod (fun b => b = bm) w1 w2 := ⟨hm2.os, hm2.tape, hm2.output, hm2.size, hm2.block⟩
    exact ⟨rfl, ⟨h1.box.mod hm hne, hl2⟩, (hb0.mod _).trans hm⟩
/-- What a write leaves of the log: an entry more, where the cell is not there. -/
def logged (k : Nat) (lc lw : Nat → Int) (x y : Int) (k' : Nat) (lc' lw' : Nat → Int) : Prop :=
  ((∃ i, i < k ∧ lc i = x) ∧ k' = k ∧ lc' = lc ∧ lw' = lw) ∨ ((∀ i, i < k → lc i ≠ x) ∧ k' = k + 1 ∧ lc' = snoc k lc x ∧ lw' = snoc k lw y)
theorem note_any (H bm k : Nat) (c lc lw : Nat → Int) (x y : Int) (w : World) (hk : k ≤ 9223372036854775806) (hd : distinct k lc) (h : Held w H bm c k lc lw) :
    Calls Try.prog 80 #[.pointer (some ⟨H, 0, none⟩), .int .i64 x, .int .i64 y] w fun e w' => ∃ b k' lc' lw', e = .returned (.bool b) ∧ (b = true ↔ ∀ i, i < k → lc i ≠ x) ∧ logged k lc lw x y k' lc' lw' ∧ Held w' H bm c k' lc' lw' ∧ Mod (fun b => b = bm) w w' := by
  by_cases hx : ∀ i, i < k → lc i ≠ x
  · refine (note_miss H bm k c lc lw x y w hk h hx).mono ?_
    rintro e w' ⟨rfl, h1, h2⟩
    exact ⟨true, _, _, _, rfl, ⟨fun _ => hx, fun _ => rfl⟩, Or.inr ⟨hx, rfl, rfl, rfl⟩, h1, h2⟩
  · have hx' : ∃ i, i < k ∧ lc i = x := Classical.byContradiction fun hh => hx fun i hi e => hh ⟨i, hi, e⟩
    obtain ⟨i, hi, rfl⟩ := hx'
    refine (note_hit H bm k c lc lw i y w h hi hd).mono ?_
    rintro e w' ⟨rfl, h1⟩
    exact ⟨false, k, lc, lw, rfl, ⟨fun e => (by cases e), fun hh => absurd rfl (hh i hi)⟩, Or.inl ⟨⟨i, hi, rfl⟩, rfl, rfl, rfl⟩, h.blw h1, h1.mod _⟩
def upd (c : Nat → Int) (n : Nat) (x : Int) : Nat → Int := fun i => if i = n then x else c i
theorem Held.upd {w : World} {H bm k : Nat} {c lc lw : Nat → Int} (h : Held w H bm c k lc lw) {n : Nat} (hn : n < 8) (x : Int) :
    Held (w.setCell ⟨H, n, none⟩ (.int .i64 x)) H bm (upd c n x) k lc lw := by
  refine ⟨(h.box.set n _).congr fun i hi => ?_, h.log.mod (Mod.setCell (X := fun b => b = H) w (p := ⟨H, n, none⟩) rfl _) (fun e => h.ne e.symm)⟩
  by_cases e : i = n
  · subst e; simp [hcell, hn, Go.Proofs.Ytagjfkkjmgfoiaa.upd]
  · simp [e, hcell, Go.Proofs.Ytagjfkkjmgfoiaa.upd]
set_option maxHeartbeats 800000 in
theorem write_any (H bm k : Nat) (c lc lw : Nat → Int) (n : Nat) (x : Int) (w : World) (hk : k ≤ 9223372036854775806) (hn : n < 8) (hd : distinct k lc) (h : Held w H bm c k lc lw) :
    Calls Try.prog 58 #[.pointer (some ⟨H, 0, none⟩), .int .i64 n, .int .i64 x] w fun e w' => ∃ k' lc' lw', e = .returned (.tuple #[]) ∧ logged k lc lw n (c n) k' lc' lw' ∧ Held w' H bm (upd c n x) k' lc' lw' ∧ Mod (fun b => b = bm ∨ b = H) w w' := by
  have hn' : (n : Int) < 8 := by omega
  have pn := h.ci hn
  go_enter Try.func58, Try.ntmps58
  go_wp2_with fail
  clear pn
  refine (note_any H bm k c lc lw n (c n) _ hk hd h).mono ?_
  rintro e w1 ⟨b, k', lc', lw', rfl, -, hlg, h1, hm1⟩
  have pn := h1.ci hn
  have fn := h1.box.frozen n
  have hu := h1.upd hn x
  clear h h1
  go_wp2
  refine bodyPost_end (results_none rfl _ _ _) rfl ?_
  exact ⟨k', lc', lw', rfl, hlg, hu, (hm1.mono (fun b e => Or.inl e)).trans (Mod.setCell _ (p := ⟨H, n, none⟩) (Or.inr rfl) _)⟩
end Go.Proofs.Ytagjfkkjmgfoiaa
