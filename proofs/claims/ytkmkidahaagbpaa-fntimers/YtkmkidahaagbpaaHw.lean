/- The program's held wheel in its box; a timer put to its place. -/
import Derived.Test.YtkmkidahaagbpaaSml
import Derived.Test.YtkmkidahaagbpaaInsT
namespace Go.Proofs.Ytkmkidahaagbpaa
open Go.RowKit
set_option linter.unusedSimpArgs false
set_option linter.unusedVariables false
def hcell (now : Int) (R : Rws) (P : Nat → Option Addr) (C : Nat → Nat) : Nat → Value := fun i => if i = 0 then .int .i64 now else .slice (P (i - 1)) (R (i - 1)).length (C (i - 1))
/-- The held wheel at z; its rows' blocks are none below lo. -/
structure HW (lo z : Nat) (now : Int) (R : Rws) (P : Nat → Option Addr) (C : Nat → Nat) (w : World) : Prop where
  box : Row w z 17 (hcell now R P C)
  buf : ∀ k, k < 16 → BufU (fun b => P k = some ⟨b, 0, none⟩) w (.slice (P k) (R k).length (C k)) (R k).length (lf (R k)) (la (R k))
  lo : ∀ k b, k < 16 → P k = some ⟨b, 0, none⟩ → lo ≤ b ∧ b ≠ z
  dis : ∀ k k' b, k < 16 → k' < 16 → k ≠ k' → P k = some ⟨b, 0, none⟩ → P k' ≠ some ⟨b, 0, none⟩
theorem buf_lt {w : World} {a : Option Addr} {n c b : Nat} {X : Nat → Prop} {f g : Nat → Int} (h : BufU X w (.slice a n c) n f g) (e : a = some ⟨b, 0, none⟩) : b < w.heap.size := by
  rcases Buf.rowE h with ⟨h0, _⟩ | ⟨g', f', h0, _, _, _, hr, _⟩
  · rw [h0] at e; cases e
  · rw [h0] at e; cases e; exact hr.row.lt
theorem HW.lt {lo z : Nat} {now : Int} {R : Rws} {P : Nat → Option Addr} {C : Nat → Nat} {w : World} (h : HW lo z now R P C w) {k b : Nat} (hk : k < 16) (e : P k = some ⟨b, 0, none⟩) : b < w.heap.size := buf_lt (h.buf k hk) e
theorem HW.mod {lo z : Nat} {now : Int} {R : Rws} {P : Nat → Option Addr} {C : Nat → Nat} {w w' : World} {Z : Nat → Prop} (h : HW lo z now R P C w) (hm : Mod Z w w') (hz : ¬ Z z) (hP : ∀ k b, k < 16 → P k = some ⟨b, 0, none⟩ → ¬ Z b) : HW lo z now R P C w' :=
  ⟨h.box.mod hm hz, fun k hk => (h.buf k hk).mod hm (fun b hb => hP k b hk hb), h.lo, h.dis⟩
theorem HW.blw {lo z : Nat} {now : Int} {R : Rws} {P : Nat → Option Addr} {C : Nat → Nat} {w w' : World} (h : HW lo z now R P C w) (hb : Blw w w') : HW lo z now R P C w' := h.mod (hb.mod (fun _ => False)) (fun h => h) (fun _ _ _ _ h => h)
theorem HW.grown {lo z : Nat} {now : Int} {R : Rws} {P : Nat → Option Addr} {C : Nat → Nat} {A B : World} {row : Option Nat} (h : HW lo z now R P C A) (hg : A.grownBy B row) (hr : ∀ r, row = some r → ∃ o : Obj, A.heap[r]? = some o ∧ o.isCells = false) : HW lo z now R P C B := by
  refine h.mod (grown_mod hg) (fun e => ?_) (fun k b hk hb e => ?_)
  · obtain ⟨o, ho, hc⟩ := hr z e
    obtain ⟨c, t, hb, _⟩ := h.box
    rw [hb] at ho; cases ho; cases hc
  · obtain ⟨o, ho, hc⟩ := hr b e
    rcases Buf.rowE (h.buf k hk) with ⟨h0, _⟩ | ⟨g', f', h0, _, _, _, ⟨cu, hcu, _⟩, _⟩
    · rw [h0] at hb; cases hb
    · rw [h0] at hb; cases hb
      rw [hcu] at ho; cases ho; cases hc
theorem HW.now0 {lo z : Nat} {now : Int} {R : Rws} {P : Nat → Option Addr} {C : Nat → Nat} {w : World} (h : HW lo z now R P C w) : w.cell? ⟨z, 0, none⟩ = some (.int .i64 now) := h.box.cell (i := 0) (by omega)
theorem HW.cell {lo z : Nat} {now : Int} {R : Rws} {P : Nat → Option Addr} {C : Nat → Nat} {w : World} (h : HW lo z now R P C w) {k : Nat} (hk : k < 16) : w.cell? ⟨z, 1 + k, none⟩ = some (.slice (P k) (R k).length (C k)) := by
  rw [h.box.cell (i := 1 + k) (by omega)]
  simp only [hcell, if_neg (show ¬ 1 + k = 0 by omega), show 1 + k - 1 = k by omega]
theorem HW.at {lo z : Nat} {now : Int} {R : Rws} {P : Nat → Option Addr} {C : Nat → Nat} {w : World} (h : HW lo z now R P C w) {k : Nat} (hk : k < 16) (hl : (R k).length ≤ 9223372036854775807) : UndosAt (fun b => P k = some ⟨b, 0, none⟩) w (P k) (R k).length (lf (R k)) (la (R k)) := by
  obtain ⟨ao, cap, e, ho⟩ := (h.buf k hk).own hl
  simp only [Value.slice.injEq] at e
  obtain ⟨rfl, -, rfl⟩ := e
  exact ho.at
def updN {α : Type} (F : Nat → α) (k : Nat) (v : α) : Nat → α := fun j => if j = k then v else F j
theorem HW.upd {lo z : Nat} {now : Int} {R : Rws} {P : Nat → Option Addr} {C : Nat → Nat} {w w1 : World} (h : HW lo z now R P C w) {k : Nat} (hk : k < 16) (hlo : lo ≤ w.heap.size) (hm : Mod (fun b => P k = some ⟨b, 0, none⟩) w w1) {a : Option Addr} {l : List Tm} {c : Nat}
    (hB : BufU (fun b => (P k = some ⟨b, 0, none⟩ ∨ w.heap.size ≤ b) ∧ b < w1.heap.size) w1 (.slice a l.length c) l.length (lf l) (la l)) :
    HW lo z now (updN R k l) (updN P k a) (updN C k c) (w1.setCell ⟨z, 1 + k, none⟩ (.slice a l.length c)) := by
  have hzl := h.box.lt
  have hza : ∀ b, a = some ⟨b, 0, none⟩ → lo ≤ b ∧ b ≠ z ∧ ∀ k', k' < 16 → k' ≠ k → P k' ≠ some ⟨b, 0, none⟩ := fun b e => by
    have hx : P k = some ⟨b, 0, none⟩ ∨ w.heap.size ≤ b := by
      rcases Buf.rowE hB with ⟨h0, _⟩ | ⟨g', f', h0, hX, _⟩
      · rw [h0] at e; cases e
      · rw [h0] at e; cases e; exact hX.1
    rcases hx with hx | hx
    · exact ⟨(h.lo k b hk hx).1, (h.lo k b hk hx).2, fun k' hk' hne => h.dis k k' b hk hk' (fun e => hne e.symm) hx⟩
    · exact ⟨by omega, by omega, fun k' hk' _ e => by have := h.lt hk' e; omega⟩
  have ms : Mod (fun b => b = z) w1 (w1.setCell ⟨z, 1 + k, none⟩ (.slice a l.length c)) := Mod.setCell (X := fun b => b = z) _ (p := ⟨z, 1 + k, none⟩) rfl _
  refine ⟨((h.box.mod hm (fun e => (h.lo k z hk e).2 rfl)).set (1 + k) _).congr (fun i hi => ?_), fun k' hk' => ?_, fun k' b hk' e => ?_, fun k1 k2 b h1 h2 hne e1 e2 => ?_⟩
  · unfold hcell updN
    by_cases e : i = 1 + k
    · subst e; simp
    · rw [if_neg e]
      by_cases e0 : i = 0
      · rw [if_pos e0, if_pos e0]
      · rw [if_neg e0, if_neg e0, if_neg (by omega), if_neg (by omega), if_neg (by omega)]
  · by_cases e : k' = k
    · subst e
      simp only [updN, if_true]
      have h5 : BufU (fun b => a = some ⟨b, 0, none⟩) w1 (.slice a l.length c) l.length (lf l) (la l) := ⟨hB.1, fun g hg => by
        rcases Buf.rowE hB with ⟨h0, _⟩ | ⟨g', f', h0, _⟩
        · rw [h0] at hg; simp [Value.ownBlock] at hg
        · rw [h0] at hg ⊢; simp [Value.ownBlock] at hg; subst hg; rfl⟩
      exact h5.mod ms (fun b hb e => (hza b hb).2.1 e)
    · simp only [updN, if_neg e]
      exact ((h.buf k' hk').mod hm (fun b hb e2 => h.dis k' k b hk' hk e hb e2)).mod ms (fun b hb e2 => (h.lo k' b hk' hb).2 e2)
  · unfold updN at e
    split at e
    · exact ⟨(hza b e).1, (hza b e).2.1⟩
    · exact h.lo k' b hk' e
  · unfold updN at e1 e2
    split at e1
    · rename_i g1
      rw [if_neg (by omega)] at e2
      exact (hza b e1).2.2 k2 h2 (by omega) e2
    · split at e2
      · rename_i g1 g2
        exact (hza b e2).2.2 k1 h1 (by omega) e1
      · exact h.dis k1 k2 b h1 h2 hne e1 e2
/-- What may turn: the box, and the rows' own blocks. -/
def HX (z : Nat) (P : Nat → Option Addr) : Nat → Prop := fun b => b = z ∨ ∃ k, k < 16 ∧ P k = some ⟨b, 0, none⟩
theorem HW.hx {lo z : Nat} {now : Int} {R : Rws} {P : Nat → Option Addr} {C : Nat → Nat} {w : World} (h : HW lo z now R P C w) {b : Nat} (hb : HX z P b) : b = z ∨ lo ≤ b := hb.elim Or.inl (fun ⟨k, hk, e⟩ => Or.inr (h.lo k b hk e).1)
theorem HW.hx_lt {lo z : Nat} {now : Int} {R : Rws} {P : Nat → Option Addr} {C : Nat → Nat} {w : World} (h : HW lo z now R P C w) {b : Nat} (hb : HX z P b) : b < w.heap.size := hb.elim (fun e => e ▸ h.box.lt) (fun ⟨k, hk, e⟩ => h.lt hk e)
theorem HW.upd_mod {lo z : Nat} {now : Int} {R : Rws} {P : Nat → Option Addr} {C : Nat → Nat} {w w1 : World} (h : HW lo z now R P C w) {k : Nat} (hk : k < 16) (hm : Mod (fun b => P k = some ⟨b, 0, none⟩) w w1) (v : Value) : Mod (HX z P) w (w1.setCell ⟨z, 1 + k, none⟩ v) :=
  (hm.mono (fun b hb => Or.inr ⟨k, hk, hb⟩)).trans (Mod.setCell _ (p := ⟨z, 1 + k, none⟩) (Or.inl rfl) _)
theorem HW.upd_old {z : Nat} {P : Nat → Option Addr} {w1 : World} {k : Nat} (hk : k < 16) {n : Nat} {a : Option Addr} {l : List Tm} {c : Nat}
    (hB : BufU (fun b => (P k = some ⟨b, 0, none⟩ ∨ n ≤ b) ∧ b < w1.heap.size) w1 (.slice a l.length c) l.length (lf l) (la l)) : ∀ j b, j < 16 → updN P k a j = some ⟨b, 0, none⟩ → HX z P b ∨ n ≤ b := by
  intro j b hj e
  unfold updN at e
  split at e
  · rcases Buf.rowE hB with ⟨h0, _⟩ | ⟨g', f', h0, hX, _⟩
    · rw [h0] at e; cases e
    · rw [h0] at e; cases e
      exact hX.1.elim (fun h => Or.inl (Or.inr ⟨k, hk, h⟩)) Or.inr
  · exact Or.inl (Or.inr ⟨j, hj, e⟩)
theorem put_upd (now : Int) (R : Rws) (t : Tm) : updN R (rowOf now t.2) ((R (rowOf now t.2)).take (pos (R (rowOf now t.2)) t.1) ++ t :: (R (rowOf now t.2)).drop (pos (R (rowOf now t.2)) t.1)) = put now R t := by
  funext j
  unfold updN put
  split
  · rename_i h; subst h; rw [ins_eq]
  · rfl
theorem nth_len {l : List Tm} {p : Nat} {t : Tm} (hp : p ≤ l.length) : (l.take p ++ t :: l.drop p).length = l.length + 1 := by simp; omega
set_option maxHeartbeats 1600000 in
theorem put_any (lo z : Nat) (now : Int) (R : Rws) (P : Nat → Option Addr) (C : Nat → Nat) (t : Tm) (w : World) (h : HW lo z now R P C w) (hlo : lo ≤ w.heap.size) (h0 : 0 ≤ now) (h1 : now ≤ 1000000) (h2 : 0 ≤ t.2) (h3 : t.2 ≤ 1000000)
    (hs : Sd (R (rowOf now t.2))) (hl : (R (rowOf now t.2)).length ≤ 1000) :
    Calls Try.prog 80 #[.pointer (some ⟨z, 0, none⟩), .agg #[.int .i64 t.1, .int .i64 t.2]] w fun e w' => e = .returned (.tuple #[]) ∧ (∃ P' C', HW lo z now (put now R t) P' C' w' ∧ ∀ j b, j < 16 → P' j = some ⟨b, 0, none⟩ → HX z P b ∨ w.heap.size ≤ b) ∧ Mod (HX z P) w w' := by
  have hk := rowOf_lt now t.2
  have hpu := put_upd now R t
  obtain ⟨k, hke⟩ : ∃ k, rowOf now t.2 = k := ⟨_, rfl⟩
  rw [hke] at hk hs hl hpu
  have HPU : Hid _ := hpu
  have HKE : Hid (rowOf now t.2 = k) := hke
  have HS : Hid (Sd (R k)) := hs
  have hb0 : Blw w (w.alloc (.cells #[.int .i64 t.1, .int .i64 t.2] 39)) := (Blw.refl _).alloc _
  have HH : Hid (HW lo z now R P C (w.alloc (.cells #[.int .i64 t.1, .int .i64 t.2] 39))) := h.blw hb0
  have BX := box2 w (.int .i64 t.1) (.int .i64 t.2) 39
  have HB0 : Hid (Blw w (w.alloc (.cells #[.int .i64 t.1, .int .i64 t.2] 39))) := hb0
  have HLO : Hid (lo ≤ w.heap.size) := hlo
  have hne : z ≠ w.heap.size := by have := h.box.lt; omega
  clear h hs hpu hke hb0 hlo
  have hkI : (k : Int) < 16 := by omega
  go_enter Try.func80, Try.ntmps80
  go_wp2_with fail
  revert HH BX HB0
  generalize w.alloc (.cells #[.int .i64 t.1, .int .i64 t.2] 39) = w1
  intro HH BX HB0
  obtain ⟨b0, b1⟩ := get2 BX
  go_wp2_with (first | (go_at_call 96; refine (rowOf_any z now t.2 _ HH.out.now0 h0 h1 h2 h3).mono ?_; rintro e w' ⟨rfl, hw⟩; replace hw := hw.symm; subst hw; rw [HKE.out]))
  have hd : Blw w1 w1.drew := (Blw.refl _).drew
  have c1 := HH.out.cell hk
  have HA : Hid (UndosAt (fun b => P k = some ⟨b, 0, none⟩) w1 (P k) (R k).length (lf (R k)) (la (R k))) := HH.out.at hk (by omega)
  have d1 : w1.drew.cell? ⟨z, 1 + k, none⟩ = some (.slice (P k) (R k).length (C k)) := hd.cell c1
  have d0 : w1.drew.cell? ⟨w.heap.size, 0, none⟩ = some (.int .i64 t.1) := hd.cell b0
  go_cut [5, 6] from 12 to 22 (fun s5 s6 wx => (∃ b, s6 = .bool b) ∧ s5 = .int .i64 (pos (R k) t.1 : Nat) ∧ Hid (Blw w1 wx))
  case first =>
    go_region_with (go_at_call 90; refine (findT_any _ _ (R k) t.1 _ _ HS.out (by omega) (HA.out.blw hd)).mono ?_; rintro e w' ⟨b, rfl, -, hb2⟩)
    all_goals go_wp2_with fail
    all_goals go_meet
    all_goals exact ⟨⟨_, rfl⟩, rfl, hd.trans (by assumption)⟩
  case rest =>
    obtain ⟨⟨bb, rfl⟩, rfl, hw2⟩ := hcut
    have hdc : Blw wc wc.drew := (Blw.refl _).drew
    have hb1c : Blw w1 wc.drew := hw2.out.trans hdc
    have hal : Blw wc.drew (wc.drew.alloc (.cells #[.int .i64 t.1, .int .i64 t.2] 39)) := (Blw.refl _).alloc _
    have HH2 : Hid (HW lo z now R P C (wc.drew.alloc (.cells #[.int .i64 t.1, .int .i64 t.2] 39))) := HH.out.blw (hb1c.trans hal)
    have HBW : Hid (Blw w (wc.drew.alloc (.cells #[.int .i64 t.1, .int .i64 t.2] 39))) := HB0.out.trans (hb1c.trans hal)
    have HINS : Hid (Calls Try.prog 97 #[.slice (P k) (R k).length (C k), .int .i64 (pos (R k) t.1 : Nat), .slice (some ⟨wc.drew.heap.size, 0, none⟩) 1 1] (wc.drew.alloc (.cells #[.int .i64 t.1, .int .i64 t.2] 39)) fun e w' => ∃ ao' c', e = .returned (.slice ao' ((R k).length + 1) c') ∧
        Hid ((∃ P' C', HW lo z now (put now R t) P' C' (w'.setCell ⟨z, 1 + k, none⟩ (.slice ao' ((R k).length + 1) c')) ∧ ∀ j b, j < 16 → P' j = some ⟨b, 0, none⟩ → HX z P b ∨ w.heap.size ≤ b) ∧ Mod (HX z P) w (w'.setCell ⟨z, 1 + k, none⟩ (.slice ao' ((R k).length + 1) c'))) ∧ w'.cell? ⟨z, 1 + k, none⟩ = some (.slice (P k) (R k).length (C k)) ∧ w'.frozen? ⟨z, 1 + k, none⟩ = false) := by
      have hsz : w.heap.size ≤ wc.heap.size := by have := (HB0.out.trans hw2.out).size; exact this
      refine (insert_any (P k) (C k) (pos (R k) t.1) wc.heap.size (R k) t _ _ (pos_le _ _) (by omega) (fun g e => by
        have := (HH.out.blw hw2.out).lt hk e
        omega) (HH2.out.buf k hk) (by
          have := heap_alloc_new wc.drew (.cells #[.int .i64 t.1, .int .i64 t.2] 39)
          exact this)).mono ?_
      rintro e w' ⟨ao', c', rfl, hB, hm⟩
      have hz1 := HH2.out.box.mod hm (fun e => (HH.out.lo k z hk e).2 rfl)
      have hlen := nth_len (t := t) (pos_le (R k) t.1)
      have hB2 : BufU (fun b => (P k = some ⟨b, 0, none⟩ ∨ (wc.drew.alloc (.cells #[.int .i64 t.1, .int .i64 t.2] 39)).heap.size ≤ b) ∧ b < w'.heap.size) w' (.slice ao' ((R k).take (pos (R k) t.1) ++ t :: (R k).drop (pos (R k) t.1)).length c') ((R k).take (pos (R k) t.1) ++ t :: (R k).drop (pos (R k) t.1)).length (lf ((R k).take (pos (R k) t.1) ++ t :: (R k).drop (pos (R k) t.1))) (la ((R k).take (pos (R k) t.1) ++ t :: (R k).drop (pos (R k) t.1))) := by
        rw [hlen]; exact hB
      have hup := HH2.out.upd hk (by have := HLO.out; have := HBW.out.size; omega) hm hB2
      rw [hlen, HPU.out] at hup
      have hcz : w'.cell? ⟨z, 1 + k, none⟩ = some (.slice (P k) (R k).length (C k)) := by
        rw [hz1.cell (i := 1 + k) (by omega)]
        simp only [hcell, if_neg (show ¬ 1 + k = 0 by omega), show 1 + k - 1 = k by omega]
      exact ⟨ao', c', rfl, ⟨⟨_, _, hup, fun j b hj e => (HW.upd_old hk hB2 j b hj e).imp id (fun h => by have := HBW.out.size; omega)⟩, (HBW.out.mod _).trans (HH2.out.upd_mod hk hm _)⟩, hcz, hz1.frozen _⟩
    have e1 : wc.drew.cell? ⟨z, 1 + k, none⟩ = some (.slice (P k) (R k).length (C k)) := hb1c.cell c1
    have e0 : wc.drew.cell? ⟨w.heap.size, 0, none⟩ = some (.int .i64 t.1) := hb1c.cell b0
    have e2 : wc.drew.cell? ⟨w.heap.size, 1, none⟩ = some (.int .i64 t.2) := hb1c.cell b1
    have e3 : (wc.drew.alloc (.cells #[.int .i64 t.1, .int .i64 t.2] 39)).cell? ⟨z, 1 + k, none⟩ = some (.slice (P k) (R k).length (C k)) := hal.cell e1
    clear HH2 HBW hal hb1c hdc hw2 HH c1 b0 b1 d0 d1 hd HA BX
    go_wp2_with fail
    refine wp_region_noPanic ?_
    refine wp_region_held_drew (S := fun _ => True) (by kernel_rfl) trivial (fun hB => ?_)
    clear hB
    generalize wc.drew = wd at *
    refine wpAnyH_take (i := 0) (oi := { dst := some 23, op := Op.move (Operand.tmp 0), type := 99, pos := _, after := #[], guard := none }) (v := (.pointer (some ⟨z, 0, none⟩))) rfl (by kernel_rfl) (by kernel_rfl) (by kernel_rfl) (fun _ _ _ h => h) (Or.inl ⟨by rfl, fun w' hS => by (try dsimp only at hS); go_simp⟩) trivial ?_
    simp only [Act.put, List.setIfInBounds_toArray, List.set_cons_zero, List.set_cons_succ]
    refine wpAnyH_take (i := 1) (oi := { dst := some 24, op := Op.move (Operand.tmp 4), type := 3, pos := _, after := #[], guard := none }) (v := (.int .i64 (k : Nat))) rfl (by kernel_rfl) (by kernel_rfl) (by kernel_rfl) (fun _ _ _ h => h) (Or.inl ⟨by rfl, fun w' hS => by (try dsimp only at hS); go_simp⟩) trivial ?_
    simp only [Act.put, List.setIfInBounds_toArray, List.set_cons_zero, List.set_cons_succ]
    refine wpAnyH_take (i := 2) (oi := { dst := some 25, op := Op.move (Operand.tmp 0), type := 99, pos := _, after := #[], guard := none }) (v := (.pointer (some ⟨z, 0, none⟩))) rfl (by kernel_rfl) (by kernel_rfl) (by kernel_rfl) (fun _ _ _ h => h) (Or.inl ⟨by rfl, fun w' hS => by (try dsimp only at hS); go_simp⟩) trivial ?_
    simp only [Act.put, List.setIfInBounds_toArray, List.set_cons_zero, List.set_cons_succ]
    refine wpAnyH_take (i := 3) (oi := { dst := some 26, op := Op.move (Operand.tmp 4), type := 3, pos := _, after := #[], guard := none }) (v := (.int .i64 (k : Nat))) rfl (by kernel_rfl) (by kernel_rfl) (by kernel_rfl) (fun _ _ _ h => h) (Or.inl ⟨by rfl, fun w' hS => by (try dsimp only at hS); go_simp⟩) trivial ?_
    simp only [Act.put, List.setIfInBounds_toArray, List.set_cons_zero, List.set_cons_succ]
    refine wpAnyH_take (i := 8) (oi := { dst := some 31, op := Op.move (Operand.tmp 5), type := 3, pos := _, after := #[], guard := none }) (v := (.int .i64 (pos (R k) t.1 : Nat))) rfl (by kernel_rfl) (by kernel_rfl) (by kernel_rfl) (fun _ _ _ h => h) (Or.inl ⟨by rfl, fun w' hS => by (try dsimp only at hS); go_simp⟩) trivial ?_
    simp only [Act.put, List.setIfInBounds_toArray, List.set_cons_zero, List.set_cons_succ]
    refine wpAnyH_take (i := 4) (oi := { dst := some 27, op := Op.nilCheck (Operand.tmp 25), type := 0, pos := _, after := #[{ on := 2, ground := Ground.data }], guard := none }) (v := (.pointer (some ⟨z, 0, none⟩))) rfl (by kernel_rfl) (by kernel_rfl) (by kernel_rfl) (fun _ _ _ h => h) (Or.inl ⟨by rfl, fun w' hS => by (try dsimp only at hS); go_simp⟩) trivial ?_
    simp only [Act.put, List.setIfInBounds_toArray, List.set_cons_zero, List.set_cons_succ]
    refine wpAnyH_take (i := 12) (oi := { dst := some 35, op := Op.nilCheck (Operand.tmp 23), type := 0, pos := _, after := #[{ on := 0, ground := Ground.data }], guard := none }) (v := (.pointer (some ⟨z, 0, none⟩))) rfl (by kernel_rfl) (by kernel_rfl) (by kernel_rfl) (fun _ _ _ h => h) (Or.inl ⟨by rfl, fun w' hS => by (try dsimp only at hS); go_simp⟩) trivial ?_
    simp only [Act.put, List.setIfInBounds_toArray, List.set_cons_zero, List.set_cons_succ]
    refine wpAnyH_take (i := 5) (oi := { dst := some 28, op := Op.fieldAddr 71 (Operand.tmp 27) 1, type := 0, pos := _, after := #[{ on := 4, ground := Ground.data }], guard := none }) (v := (.pointer (some ⟨z, 1, none⟩))) rfl (by kernel_rfl) (by kernel_rfl) (by kernel_rfl) (fun _ _ _ h => h) (Or.inl ⟨by rfl, fun w' hS => by (try dsimp only at hS); go_simp⟩) trivial ?_
    simp only [Act.put, List.setIfInBounds_toArray, List.set_cons_zero, List.set_cons_succ]
    refine wpAnyH_take (i := 13) (oi := { dst := some 36, op := Op.fieldAddr 71 (Operand.tmp 35) 1, type := 0, pos := _, after := #[{ on := 12, ground := Ground.data }], guard := none }) (v := (.pointer (some ⟨z, 1, none⟩))) rfl (by kernel_rfl) (by kernel_rfl) (by kernel_rfl) (fun _ _ _ h => h) (Or.inl ⟨by rfl, fun w' hS => by (try dsimp only at hS); go_simp⟩) trivial ?_
    simp only [Act.put, List.setIfInBounds_toArray, List.set_cons_zero, List.set_cons_succ]
    refine wpAnyH_take (i := 6) (oi := { dst := some 29, op := Op.indexAddr 69 (Operand.tmp 28) (Operand.tmp 26), type := 0, pos := _, after := #[{ on := 5, ground := Ground.data }, { on := 3, ground := Ground.data }], guard := none }) (v := (.pointer (some ⟨z, 1 + k, none⟩))) rfl (by kernel_rfl) (by kernel_rfl) (by kernel_rfl) (fun _ _ _ h => h) (Or.inl ⟨by rfl, fun w' hS => by (try dsimp only at hS); go_simp⟩) trivial ?_
    simp only [Act.put, List.setIfInBounds_toArray, List.set_cons_zero, List.set_cons_succ]
    refine wpAnyH_ready (rs := [7, 9]) (by kernel_rfl) (by simp) ?_
    refine AllReadyH.cons (o := { dst := some 30, op := Op.load 31 (Operand.tmp 29), type := 31, pos := _, after := #[{ on := 6, ground := Ground.data }], guard := none }) rfl (fun K hK => ?_) (AllReadyH.cons (o := { dst := some 32, op := Op.load 39 (Operand.tmp 3), type := 39, pos := _, after := #[], guard := none }) rfl (fun K hK => ?_) AllReadyH.nil)
    · go_simp
      refine hK.out _ _ trivial (fun hB => ?_)
      clear hK K hB
      try simp only [Act.put, List.setIfInBounds_toArray, List.set_cons_zero, List.set_cons_succ]
      refine wpAnyH_ready (rs := [9]) (by kernel_rfl) (by simp) ?_
      refine AllReadyH.cons (o := { dst := some 32, op := Op.load 39 (Operand.tmp 3), type := 39, pos := _, after := #[], guard := none }) rfl (fun K hK => ?_) AllReadyH.nil
      go_simp
      refine hK.out _ _ trivial (fun hB => ?_)
      clear hK K hB
      try simp only [Act.put, List.setIfInBounds_toArray, List.set_cons_zero, List.set_cons_succ]
      refine wpAnyH_ready (rs := [10]) (by kernel_rfl) (by simp) ?_
      refine AllReadyH.cons (o := { dst := some 33, op := Op.buildSlice 31 1 #[(0, Operand.tmp 32)], type := 31, pos := _, after := #[{ on := 9, ground := Ground.data }], guard := none }) rfl (fun K hK => ?_) AllReadyH.nil
      go_simp
      refine hK.out _ _ trivial (fun hB => ?_)
      clear hK K hB
      try simp only [Act.put, List.setIfInBounds_toArray, List.set_cons_zero, List.set_cons_succ]
      refine wpAnyH_ready (rs := [11]) (by kernel_rfl) (by simp) ?_
      refine AllReadyH.cons (o := { dst := some 34, op := Op.call { callee := Callee.value (Operand.func 97), args := #[Operand.tmp 30, Operand.tmp 31, Operand.tmp 33], argTypes := #[31, 3, 31] }, type := 31, pos := _, after := #[{ on := 7, ground := Ground.data }, { on := 8, ground := Ground.data }, { on := 10, ground := Ground.data }], guard := none }) rfl (fun K hK => ?_) AllReadyH.nil
      go_simp
      refine HINS.out.mono ?_
      rintro e w' ⟨ao', c', rfl, hE, g1, g2⟩
      refine hK.out _ _ trivial (fun hB => ?_)
      clear hK K hB
      try simp only [Act.put, List.setIfInBounds_toArray, List.set_cons_zero, List.set_cons_succ]
      refine wpAnyH_take (i := 14) (oi := { dst := some 37, op := Op.indexAddr 69 (Operand.tmp 36) (Operand.tmp 24), type := 0, pos := _, after := #[{ on := 13, ground := Ground.data }, { on := 1, ground := Ground.data }, { on := 0, ground := Ground.phase }, { on := 1, ground := Ground.phase }, { on := 2, ground := Ground.phase }, { on := 3, ground := Ground.phase }, { on := 4, ground := Ground.phase }, { on := 5, ground := Ground.phase }, { on := 6, ground := Ground.phase }, { on := 7, ground := Ground.phase }, { on := 8, ground := Ground.phase }, { on := 9, ground := Ground.phase }, { on := 10, ground := Ground.phase }, { on := 11, ground := Ground.phase }], guard := none }) (v := (.pointer (some ⟨z, 1 + k, none⟩))) rfl (by kernel_rfl) (by kernel_rfl) (by kernel_rfl) (fun _ _ _ h => h) (Or.inl ⟨by rfl, fun w' hS => by (try dsimp only at hS); go_simp⟩) trivial ?_
      simp only [Act.put, List.setIfInBounds_toArray, List.set_cons_zero, List.set_cons_succ]
      refine wpAnyH_ready (rs := [15]) (by kernel_rfl) (by simp) ?_
      refine AllReadyH.cons (o := { dst := none, op := Op.store 31 (Operand.tmp 37) (Operand.tmp 34), type := 0, pos := _, after := #[{ on := 14, ground := Ground.data }, { on := 11, ground := Ground.data }, { on := 11, ground := Ground.chain }, { on := 0, ground := Ground.phase }, { on := 1, ground := Ground.phase }, { on := 2, ground := Ground.phase }, { on := 3, ground := Ground.phase }, { on := 4, ground := Ground.phase }, { on := 5, ground := Ground.phase }, { on := 6, ground := Ground.phase }, { on := 7, ground := Ground.phase }, { on := 8, ground := Ground.phase }, { on := 9, ground := Ground.phase }, { on := 10, ground := Ground.phase }, { on := 11, ground := Ground.phase }], guard := none }) rfl (fun K hK => ?_) AllReadyH.nil
      go_simp
      refine hK.out _ _ trivial (fun hB => ?_)
      clear hK K hB
      try simp only [Act.put, List.setIfInBounds_toArray, List.set_cons_zero, List.set_cons_succ]
      refine wpAnyH_done (by kernel_rfl) ?_ _
      refine NoPanic.normal ?_
      go_wp2
      go_end0
      exact ⟨rfl, hE.out⟩
    · go_simp
      refine hK.out _ _ trivial (fun hB => ?_)
      clear hK K hB
      try simp only [Act.put, List.setIfInBounds_toArray, List.set_cons_zero, List.set_cons_succ]
      refine wpAnyH_ready (rs := [7, 10]) (by kernel_rfl) (by simp) ?_
      refine AllReadyH.cons (o := { dst := some 30, op := Op.load 31 (Operand.tmp 29), type := 31, pos := _, after := #[{ on := 6, ground := Ground.data }], guard := none }) rfl (fun K hK => ?_) (AllReadyH.cons (o := { dst := some 33, op := Op.buildSlice 31 1 #[(0, Operand.tmp 32)], type := 31, pos := _, after := #[{ on := 9, ground := Ground.data }], guard := none }) rfl (fun K hK => ?_) AllReadyH.nil)
      · go_simp
        refine hK.out _ _ trivial (fun hB => ?_)
        clear hK K hB
        try simp only [Act.put, List.setIfInBounds_toArray, List.set_cons_zero, List.set_cons_succ]
        refine wpAnyH_ready (rs := [10]) (by kernel_rfl) (by simp) ?_
        refine AllReadyH.cons (o := { dst := some 33, op := Op.buildSlice 31 1 #[(0, Operand.tmp 32)], type := 31, pos := _, after := #[{ on := 9, ground := Ground.data }], guard := none }) rfl (fun K hK => ?_) AllReadyH.nil
        go_simp
        refine hK.out _ _ trivial (fun hB => ?_)
        clear hK K hB
        try simp only [Act.put, List.setIfInBounds_toArray, List.set_cons_zero, List.set_cons_succ]
        refine wpAnyH_ready (rs := [11]) (by kernel_rfl) (by simp) ?_
        refine AllReadyH.cons (o := { dst := some 34, op := Op.call { callee := Callee.value (Operand.func 97), args := #[Operand.tmp 30, Operand.tmp 31, Operand.tmp 33], argTypes := #[31, 3, 31] }, type := 31, pos := _, after := #[{ on := 7, ground := Ground.data }, { on := 8, ground := Ground.data }, { on := 10, ground := Ground.data }], guard := none }) rfl (fun K hK => ?_) AllReadyH.nil
        go_simp
        refine HINS.out.mono ?_
        rintro e w' ⟨ao', c', rfl, hE, g1, g2⟩
        refine hK.out _ _ trivial (fun hB => ?_)
        clear hK K hB
        try simp only [Act.put, List.setIfInBounds_toArray, List.set_cons_zero, List.set_cons_succ]
        refine wpAnyH_take (i := 14) (oi := { dst := some 37, op := Op.indexAddr 69 (Operand.tmp 36) (Operand.tmp 24), type := 0, pos := _, after := #[{ on := 13, ground := Ground.data }, { on := 1, ground := Ground.data }, { on := 0, ground := Ground.phase }, { on := 1, ground := Ground.phase }, { on := 2, ground := Ground.phase }, { on := 3, ground := Ground.phase }, { on := 4, ground := Ground.phase }, { on := 5, ground := Ground.phase }, { on := 6, ground := Ground.phase }, { on := 7, ground := Ground.phase }, { on := 8, ground := Ground.phase }, { on := 9, ground := Ground.phase }, { on := 10, ground := Ground.phase }, { on := 11, ground := Ground.phase }], guard := none }) (v := (.pointer (some ⟨z, 1 + k, none⟩))) rfl (by kernel_rfl) (by kernel_rfl) (by kernel_rfl) (fun _ _ _ h => h) (Or.inl ⟨by rfl, fun w' hS => by (try dsimp only at hS); go_simp⟩) trivial ?_
        simp only [Act.put, List.setIfInBounds_toArray, List.set_cons_zero, List.set_cons_succ]
        refine wpAnyH_ready (rs := [15]) (by kernel_rfl) (by simp) ?_
        refine AllReadyH.cons (o := { dst := none, op := Op.store 31 (Operand.tmp 37) (Operand.tmp 34), type := 0, pos := _, after := #[{ on := 14, ground := Ground.data }, { on := 11, ground := Ground.data }, { on := 11, ground := Ground.chain }, { on := 0, ground := Ground.phase }, { on := 1, ground := Ground.phase }, { on := 2, ground := Ground.phase }, { on := 3, ground := Ground.phase }, { on := 4, ground := Ground.phase }, { on := 5, ground := Ground.phase }, { on := 6, ground := Ground.phase }, { on := 7, ground := Ground.phase }, { on := 8, ground := Ground.phase }, { on := 9, ground := Ground.phase }, { on := 10, ground := Ground.phase }, { on := 11, ground := Ground.phase }], guard := none }) rfl (fun K hK => ?_) AllReadyH.nil
        go_simp
        refine hK.out _ _ trivial (fun hB => ?_)
        clear hK K hB
        try simp only [Act.put, List.setIfInBounds_toArray, List.set_cons_zero, List.set_cons_succ]
        refine wpAnyH_done (by kernel_rfl) ?_ _
        refine NoPanic.normal ?_
        go_wp2
        go_end0
        exact ⟨rfl, hE.out⟩
      · go_simp
        refine hK.out _ _ trivial (fun hB => ?_)
        clear hK K hB
        try simp only [Act.put, List.setIfInBounds_toArray, List.set_cons_zero, List.set_cons_succ]
        refine wpAnyH_ready (rs := [7]) (by kernel_rfl) (by simp) ?_
        refine AllReadyH.cons (o := { dst := some 30, op := Op.load 31 (Operand.tmp 29), type := 31, pos := _, after := #[{ on := 6, ground := Ground.data }], guard := none }) rfl (fun K hK => ?_) AllReadyH.nil
        go_simp
        refine hK.out _ _ trivial (fun hB => ?_)
        clear hK K hB
        try simp only [Act.put, List.setIfInBounds_toArray, List.set_cons_zero, List.set_cons_succ]
        refine wpAnyH_ready (rs := [11]) (by kernel_rfl) (by simp) ?_
        refine AllReadyH.cons (o := { dst := some 34, op := Op.call { callee := Callee.value (Operand.func 97), args := #[Operand.tmp 30, Operand.tmp 31, Operand.tmp 33], argTypes := #[31, 3, 31] }, type := 31, pos := _, after := #[{ on := 7, ground := Ground.data }, { on := 8, ground := Ground.data }, { on := 10, ground := Ground.data }], guard := none }) rfl (fun K hK => ?_) AllReadyH.nil
        go_simp
        refine HINS.out.mono ?_
        rintro e w' ⟨ao', c', rfl, hE, g1, g2⟩
        refine hK.out _ _ trivial (fun hB => ?_)
        clear hK K hB
        try simp only [Act.put, List.setIfInBounds_toArray, List.set_cons_zero, List.set_cons_succ]
        refine wpAnyH_take (i := 14) (oi := { dst := some 37, op := Op.indexAddr 69 (Operand.tmp 36) (Operand.tmp 24), type := 0, pos := _, after := #[{ on := 13, ground := Ground.data }, { on := 1, ground := Ground.data }, { on := 0, ground := Ground.phase }, { on := 1, ground := Ground.phase }, { on := 2, ground := Ground.phase }, { on := 3, ground := Ground.phase }, { on := 4, ground := Ground.phase }, { on := 5, ground := Ground.phase }, { on := 6, ground := Ground.phase }, { on := 7, ground := Ground.phase }, { on := 8, ground := Ground.phase }, { on := 9, ground := Ground.phase }, { on := 10, ground := Ground.phase }, { on := 11, ground := Ground.phase }], guard := none }) (v := (.pointer (some ⟨z, 1 + k, none⟩))) rfl (by kernel_rfl) (by kernel_rfl) (by kernel_rfl) (fun _ _ _ h => h) (Or.inl ⟨by rfl, fun w' hS => by (try dsimp only at hS); go_simp⟩) trivial ?_
        simp only [Act.put, List.setIfInBounds_toArray, List.set_cons_zero, List.set_cons_succ]
        refine wpAnyH_ready (rs := [15]) (by kernel_rfl) (by simp) ?_
        refine AllReadyH.cons (o := { dst := none, op := Op.store 31 (Operand.tmp 37) (Operand.tmp 34), type := 0, pos := _, after := #[{ on := 14, ground := Ground.data }, { on := 11, ground := Ground.data }, { on := 11, ground := Ground.chain }, { on := 0, ground := Ground.phase }, { on := 1, ground := Ground.phase }, { on := 2, ground := Ground.phase }, { on := 3, ground := Ground.phase }, { on := 4, ground := Ground.phase }, { on := 5, ground := Ground.phase }, { on := 6, ground := Ground.phase }, { on := 7, ground := Ground.phase }, { on := 8, ground := Ground.phase }, { on := 9, ground := Ground.phase }, { on := 10, ground := Ground.phase }, { on := 11, ground := Ground.phase }], guard := none }) rfl (fun K hK => ?_) AllReadyH.nil
        go_simp
        refine hK.out _ _ trivial (fun hB => ?_)
        clear hK K hB
        try simp only [Act.put, List.setIfInBounds_toArray, List.set_cons_zero, List.set_cons_succ]
        refine wpAnyH_done (by kernel_rfl) ?_ _
        refine NoPanic.normal ?_
        go_wp2
        go_end0
        exact ⟨rfl, hE.out⟩
end Go.Proofs.Ytkmkidahaagbpaa
