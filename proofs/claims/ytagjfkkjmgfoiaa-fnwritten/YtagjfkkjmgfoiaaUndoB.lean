/- 'undo' and 'end' of a held book. -/
import Derived.Test.YtagjfkkjmgfoiaaTouch
namespace Go.Proofs.Ytagjfkkjmgfoiaa
open Go.RowKit Go.ChangeMaps
set_option linter.unusedSimpArgs false
set_option linter.unusedVariables false
/-- What stands in 'end' behind j removals. -/
structure Ending_ (w wr : World) (H bm cl k : Nat) (c lc lw f : Nat → Int) (ao : Option Addr) (j : Nat) : Prop where
  mod : Mod (fun b => b = bm) w wr
  box : Row wr H 9 (hcell c bm)
  ints : IntsOwn (fun b => w.heap.size < b) wr ao k f
  ex : ∃ ix, LogIx wr bm cl lc lw ix ∧ ix.Nodup ∧ ∀ t, t ∈ ix ↔ t < k ∧ ∀ p, p < j → f p ≠ lc t
set_option maxHeartbeats 3200000 in
theorem end_any (H bm cl k : Nat) (c lc lw : Nat → Int) (w : World) (hk : k ≤ 8) (hcl : k ≤ cl) (hd : distinct k lc) (hne : H ≠ bm) (hB : Row w H 9 (hcell c bm)) (hL : LogIx w bm cl lc lw (List.range k)) :
    Calls Try.prog 67 #[.pointer (some ⟨H, 0, none⟩)] w fun e w' => e = .returned (.tuple #[]) ∧ Row w' H 9 (hcell c bm) ∧ LogIx w' bm cl lc lw [] ∧ Mod (fun b => b = bm) w w' := by
  have HB : Hid (Row w H 9 (hcell c bm)) := hB
  have HL : Hid (LogIx w bm cl lc lw (List.range k)) := hL
  have HD : Hid (distinct k lc) := hd
  have hM := hL.lt
  clear hB hL hd
  go_enter Try.func67, Try.ntmps67
  go_wp2_with fail
  refine (touched_any H bm cl k c lc lw _ hk hcl HD.out HB.out HL.out).mono ?_
  rintro e w1 ⟨ao, cap, f, rfl, hto, hio, hb1⟩
  have HTO : Hid (tOut k lc k f) := hto
  have H0 : Hid (Ending_ w w1 H bm cl k c lc lw f ao 0) := ⟨hb1.mod _, HB.out.blw hb1, hio.mono (fun b hb => hb.1), List.range k, HL.out.blw hb1, List.nodup_range, fun t => ⟨fun ht => ⟨List.mem_range.1 ht, fun p hp => absurd hp (Nat.not_lt_zero _)⟩, fun ht => List.mem_range.2 ht.1⟩⟩
  clear hto hio hb1 HB HL
  go_wp2
  go_loopw [7] (fun v wr => ∃ j : Nat, j ≤ k ∧ v = .int .i64 j ∧ Ending_ w wr H bm cl k c lc lw f ao j) (fun v _ => k - (intOf v).toNat)
  case atStart => exact ⟨0, by omega, rfl, H0.out⟩
  case round =>
    obtain ⟨j, hj, rfl, he⟩ := hrel
    clear H0
    have HE : Hid (Ending_ w wr H bm cl k c lc lw f ao j) := he
    clear he
    by_cases hlt : j < k
    · have hlt' : (j : Int) < k := by omega
      obtain ⟨g, hg, rfl, hr⟩ := HE.out.ints.2 (by omega)
      have c0 : wr.cell? ⟨g, j, none⟩ = some (.int .i64 (f j)) := hr.cell hlt
      have p8 : wr.cell? ⟨H, 8, none⟩ = some (.map (some bm)) := by
        have := HE.out.box.cell (i := 8) (by omega)
        simpa [hcell] using this
      obtain ⟨t, htk, et⟩ := (HTO.out.2 (f j)).1 ⟨j, hlt, rfl⟩
      obtain ⟨ix, hix, hnd, hmem⟩ := HE.out.ex
      have htix : t ∈ ix := (hmem t).2 ⟨htk, fun p hp e => by have := HTO.out.1 p j hp hlt; omega⟩
      obtain ⟨w2, ix2, hrun, hix2, hnd2, hmem2, hm2⟩ := hix.drop (fun s hs => ((hmem s).1 hs).1) hnd HD.out htix 0
      rw [et] at hrun
      have HS : Hid (Ending_ w w2 H bm cl k c lc lw f (some ⟨g, 0, none⟩) (j + 1)) := by
        refine ⟨HE.out.mod.trans hm2, HE.out.box.mod hm2 hne, HE.out.ints.mod hm2 (fun b hb e => by omega), ix2, hix2, hnd2, fun s => ?_⟩
        rw [hmem2 s, hmem s]
        constructor
        · rintro ⟨⟨h1, h2⟩, h3⟩
          refine ⟨h1, fun p hp e => ?_⟩
          by_cases ep : p = j
          · subst ep
            exact h3 (HD.out s t h1 htk (by rw [et, e]))
          · exact h2 p (by omega) e
        · rintro ⟨h1, h2⟩
          exact ⟨⟨h1, fun p hp => h2 p (by omega)⟩, fun e => h2 j (by omega) (by rw [e, et])⟩
      clear hr hix hnd hmem htix hix2 hnd2 hmem2 hm2 et
      go_wp2
      go_roundw
      case rel => exact ⟨j + 1, by omega, by go_num, HS.out⟩
      case measure => simp [intOf]; omega
    · obtain rfl : j = k := by omega
      go_wp2
      go_end0
      obtain ⟨ix, hix, hnd, hmem⟩ := HE.out.ex
      have : ix = [] := by
        cases ix with
        | nil => rfl
        | cons a l =>
          obtain ⟨h1, h2⟩ := (hmem a).1 (by simp)
          obtain ⟨p, hp, e⟩ := (HTO.out.2 (lc a)).2 ⟨a, h1, rfl⟩
          exact absurd e (h2 p hp)
      subst this
      exact ⟨rfl, HE.out.box, hix, HE.out.mod⟩
/-- The cells as they were, the log read from its front. -/
def before : Nat → (Nat → Int) → (Nat → Int) → (Nat → Int) → Nat → Int
  | 0, _, _, c => c
  | k + 1, lc, lw, c => fun i => if (i : Int) = lc k then lw k else before k lc lw c i
theorem before_hit {k : Nat} {lc lw c : Nat → Int} (hd : distinct k lc) {t i : Nat} (ht : t < k) (e : lc t = i) : before k lc lw c i = lw t := by
  induction k with
  | zero => omega
  | succ k ih =>
    unfold before
    by_cases h : t = k
    · subst h
      simp [e]
    · have h1 : ¬ (i : Int) = lc k := fun h2 => h (hd t k (by omega) (by omega) (by rw [e, h2]))
      simp only [h1, if_false]
      exact ih (fun p q hp hq => hd p q (by omega) (by omega)) (by omega)
theorem before_miss {k : Nat} {lc lw c : Nat → Int} {i : Nat} (h : ∀ t, t < k → lc t ≠ i) : before k lc lw c i = c i := by
  induction k with
  | zero => rfl
  | succ k ih =>
    unfold before
    have h1 : ¬ (i : Int) = lc k := fun h2 => h k (by omega) h2.symm
    simp only [h1, if_false]
    exact ih (fun t ht => h t (by omega))
/-- What stands in 'undo' behind j cells. -/
structure Undoing (w wr : World) (H bm cl k : Nat) (c c' lc lw f : Nat → Int) (ao : Option Addr) (j : Nat) : Prop where
  mod : Mod (fun b => b = H) w wr
  held : Row wr H 9 (hcell c' bm)
  log : LogIx wr bm cl lc lw (List.range k)
  ints : IntsOwn (fun b => w.heap.size < b) wr ao k f
  hit : ∀ i, i < 8 → ∀ p, p < j → f p = (i : Nat) → c' i = before k lc lw c i
  miss : ∀ i, i < 8 → (∀ p, p < j → f p ≠ (i : Nat)) → c' i = c i
theorem logix_hit {w : World} {bm cl k : Nat} {lc lw : Nat → Int} (h : LogIx w bm cl lc lw (List.range k)) {i : Nat} (hi : i < k) (hd : distinct k lc) : (Instr.lookup 71 (.map (some bm)) (.int .i64 (lc i)) false).run Try.prog w = .ok (.agg #[.int .i64 i, .int .i64 (lw i)]) w := by
  have h' : w.heap[bm]? = some (.map (ents lc lw k).toArray cl) := h
  simp [Instr.lookup, run_underlying Try.underlying71, MapKept.run_getObj_map h', Result.andThen, MapKept.run_checkKey Try.underlying3 (k := .int .i64 (lc i)) (by simp [MapKept.IsKey]), MapKept.run_findKey Try.underlying3 (find_hit hi hd), ent]
theorem field91 (x y : Int) (w : World) : (Instr.field 91 (.agg #[.int .i64 x, .int .i64 y]) 1).run Try.prog w = .ok (.int .i64 y) w := by kernel_rfl
set_option maxHeartbeats 3200000 in
theorem undo_any (H bm cl k : Nat) (c lc lw : Nat → Int) (w : World) (hk : k ≤ 8) (hcl : k ≤ cl) (hd : distinct k lc) (hok : ∀ t, t < k → cellOK (lc t)) (hne : H ≠ bm) (hB : Row w H 9 (hcell c bm)) (hL : LogIx w bm cl lc lw (List.range k)) :
    Calls Try.prog 68 #[.pointer (some ⟨H, 0, none⟩)] w fun e w' => e = .returned (.tuple #[]) ∧ Row w' H 9 (hcell (before k lc lw c) bm) ∧ LogIx w' bm cl lc lw (List.range k) ∧ Mod (fun b => b = H) w w' := by
  have HB : Hid (Row w H 9 (hcell c bm)) := hB
  have HL : Hid (LogIx w bm cl lc lw (List.range k)) := hL
  have HD : Hid (distinct k lc) := hd
  have HOK : Hid (∀ t, t < k → cellOK (lc t)) := hok
  have hH := hB.lt
  clear hB hL hd hok
  go_enter Try.func68, Try.ntmps68
  go_wp2_with fail
  refine (touched_any H bm cl k c lc lw _ hk hcl HD.out HB.out HL.out).mono ?_
  rintro e w1 ⟨ao, cap, f, rfl, hto, hio, hb1⟩
  have HTO : Hid (tOut k lc k f) := hto
  have H0 : Hid (Undoing w w1 H bm cl k c c lc lw f ao 0) := ⟨hb1.mod _, HB.out.blw hb1, HL.out.blw hb1, hio.mono (fun b hb => hb.1), fun i hi p hp => absurd hp (Nat.not_lt_zero _), fun i hi _ => rfl⟩
  clear hto hio hb1 HB HL
  go_wp2
  go_loopw [7] (fun v wr => ∃ (j : Nat) (c' : Nat → Int), j ≤ k ∧ v = .int .i64 j ∧ Undoing w wr H bm cl k c c' lc lw f ao j) (fun v _ => k - (intOf v).toNat)
  case atStart => exact ⟨0, c, by omega, rfl, H0.out⟩
  case round =>
    obtain ⟨j, c', hj, rfl, he⟩ := hrel
    clear H0
    have HE : Hid (Undoing w wr H bm cl k c c' lc lw f ao j) := he
    clear he
    by_cases hlt : j < k
    · have hlt' : (j : Int) < k := by omega
      obtain ⟨g, hg, rfl, hr⟩ := HE.out.ints.2 (by omega)
      have c0 : wr.cell? ⟨g, j, none⟩ = some (.int .i64 (f j)) := hr.cell hlt
      have p8 : wr.cell? ⟨H, 8, none⟩ = some (.map (some bm)) := by
        have := HE.out.held.cell (i := 8) (by omega)
        simpa [hcell] using this
      obtain ⟨t, htk, et⟩ := (HTO.out.2 (f j)).1 ⟨j, hlt, rfl⟩
      have hck := HOK.out t htk
      obtain ⟨n, hn, en⟩ : ∃ n : Nat, n < 8 ∧ f j = n := ⟨(f j).toNat, by unfold cellOK at hck; omega, by unfold cellOK at hck; omega⟩
      have hn' : (n : Int) < 8 := by omega
      have hl : (Instr.lookup 71 (.map (some bm)) (.int .i64 (n : Int)) false).run Try.prog wr.drew = .ok (.agg #[.int .i64 t, .int .i64 (lw t)]) wr.drew := by
        have := logix_hit (w := wr.drew) HE.out.log htk HD.out
        rw [et, en] at this
        exact this
      have pn : wr.cell? ⟨H, n, none⟩ = some (.int .i64 (c' n)) := by
        have := HE.out.held.cell (i := n) (by omega)
        simpa [hcell, hn] using this
      have fn := HE.out.held.frozen n
      have hm2 : Mod (fun b => b = H) wr (wr.drew.setCell ⟨H, n, none⟩ (.int .i64 (lw t))) := ((Blw.refl wr).drew.mod _).trans (Mod.setCell (X := fun b => b = H) _ (p := ⟨H, n, none⟩) rfl _)
      have HS : Hid (Undoing w (wr.drew.setCell ⟨H, n, none⟩ (.int .i64 (lw t))) H bm cl k c (upd c' n (lw t)) lc lw f (some ⟨g, 0, none⟩) (j + 1)) := by
        refine ⟨HE.out.mod.trans hm2, ((HE.out.held.blw (Blw.refl wr).drew).set n _).congr (fun i hi => ?_), HE.out.log.mod hm2 (fun e => hne e.symm), HE.out.ints.mod hm2 (fun b hb e => by omega), fun i hi p hp e => ?_, fun i hi hall => ?_⟩
        · by_cases e : i = n
          · subst e; simp [hcell, hn, upd]
          · simp [e, hcell, upd]
        · by_cases e2 : i = n
          · subst e2
            simp only [upd, if_true]
            exact (before_hit HD.out htk (by rw [et, en])).symm
          · simp only [upd, e2, if_false]
            by_cases e3 : p = j
            · subst e3
              exact absurd (by omega : i = n) e2
            · exact HE.out.hit i hi p (by omega) e
        · have e2 : i ≠ n := fun e => hall j (by omega) (by rw [en, e])
          simp only [upd, e2, if_false]
          exact HE.out.miss i hi (fun p hp => hall p (by omega))
      have hfl := field91 t (lw t) wr.drew
      clear hr hm2 et HE
      go_wp2
      go_region
      all_goals go_wp2
      all_goals go_roundw
      case rel => exact ⟨j + 1, _, by omega, by go_num, HS.out⟩
      case measure => simp [intOf]; omega
    · obtain rfl : j = k := by omega
      go_wp2
      go_end0
      refine ⟨rfl, HE.out.held.congr (fun i hi => ?_), HE.out.log, HE.out.mod⟩
      by_cases h8 : i < 8
      · simp only [hcell, h8, if_true]
        congr 1
        by_cases hx : ∃ p, p < j ∧ f p = (i : Nat)
        · obtain ⟨p, hp, e⟩ := hx
          exact HE.out.hit i h8 p hp e
        · rw [HE.out.miss i h8 (fun p hp e => hx ⟨p, hp, e⟩)]
          exact (before_miss (fun t ht e => by
            obtain ⟨p, hp, e2⟩ := (HTO.out.2 (lc t)).2 ⟨t, ht, rfl⟩
            exact hx ⟨p, hp, by rw [e2, e]⟩)).symm
      · simp [hcell, h8]
end Go.Proofs.Ytagjfkkjmgfoiaa
