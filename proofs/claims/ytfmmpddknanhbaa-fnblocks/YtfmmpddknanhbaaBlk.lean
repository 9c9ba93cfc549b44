/- Blocks of pages: where they begin, whose they are, filled. -/
import Derived.Test.YtfmmpddknanhbaaDrop
namespace Go.Proofs.Ytfmmpddknanhbaa
open Go.RowKit
set_option linter.unusedSimpArgs false
set_option linter.unusedVariables false
/-- How many pages a block of an order has. -/
def bsz (k : Int) : Nat := 2 ^ k.toNat
theorem ord_cases {k : Int} (h : ordOK k) : (k = 0 ∧ bsz k = 1) ∨ (k = 1 ∧ bsz k = 2) ∨ (k = 2 ∧ bsz k = 4) ∨ (k = 3 ∧ bsz k = 8) ∨ (k = 4 ∧ bsz k = 16) := by
  unfold ordOK at h
  have : k = 0 ∨ k = 1 ∨ k = 2 ∨ k = 3 ∨ k = 4 := by omega
  rcases this with rfl | rfl | rfl | rfl | rfl <;> simp [bsz]
theorem bsz_le {k : Int} (h : ordOK k) : 1 ≤ bsz k ∧ bsz k ≤ 16 := by
  rcases ord_cases h with h | h | h | h | h <;> omega
theorem shl_i {k : Int} (h : ordOK k) (w : World) : (Op.shift .shl .i64 1 .i64 k).run Try.prog w = .ok (.int .i64 (bsz k)) w := by
  unfold ordOK at h
  have : k = 0 ∨ k = 1 ∨ k = 2 ∨ k = 3 ∨ k = 4 := by omega
  rcases this with rfl | rfl | rfl | rfl | rfl <;> rfl
theorem shl_u {k : Int} (h : ordOK k) (w : World) : (Op.shift .shl .i64 1 .u64 k).run Try.prog w = .ok (.int .i64 (bsz k)) w := by
  unfold ordOK at h
  have : k = 0 ∨ k = 1 ∨ k = 2 ∨ k = 3 ∨ k = 4 := by omega
  rcases this with rfl | rfl | rfl | rfl | rfl <;> rfl
/-- A block of the order begins at the page. -/
def blkOK (a k : Int) : Prop := ordOK k ∧ plOK a ∧ a.toNat % bsz k = 0
theorem blk_fit {p : Nat} {k : Int} (h : ordOK k) (hp : p < 16) (hm : p % bsz k = 0) : p + bsz k ≤ 16 := by
  rcases ord_cases h with ⟨_, e⟩ | ⟨_, e⟩ | ⟨_, e⟩ | ⟨_, e⟩ | ⟨_, e⟩ <;> rw [e] at hm ⊢ <;> omega
theorem tmod_nat (p S : Nat) : Int.tmod (p : Int) (S : Int) = ((p % S : Nat) : Int) := by
  rw [Int.tmod_eq_emod_of_nonneg (by omega)]; rfl
theorem mod_beq_t {p S : Nat} (h : p % S = 0) : ((p : Int) % (S : Int) == 0) = true := by
  have e : (p : Int) % (S : Int) = ((p % S : Nat) : Int) := rfl
  rw [e, h]; rfl
theorem mod_beq_f {p S : Nat} (h : ¬ p % S = 0) : ((p : Int) % (S : Int) == 0) = false := by
  have e : (p : Int) % (S : Int) = ((p % S : Nat) : Int) := rfl
  rw [e, beq_eq_false_iff_ne]; omega
set_option maxHeartbeats 800000 in
theorem isBlock_any (a k : Int) (w : World) : Calls Try.prog 68 #[.int .i64 a, .int .i64 k] w fun e w' => ∃ r, e = .returned (.bool r) ∧ (r = true ↔ blkOK a k) ∧ w' = w := by
  go_enter Try.func68, Try.ntmps68
  go_wp2_with fail
  refine (isOrder_any k _).mono ?_
  rintro e w ⟨r, rfl, hr, rfl⟩
  have HT : Hid (r = true ↔ ordOK k) := hr
  clear hr
  cases r
  · have HN : Hid (¬ ordOK k) := fun g => by have := HT.out.2 g; simp at this
    clear HT
    go_wp2
    go_ret
    exact ⟨false, rfl, iff_f (fun g => HN.out g.1), rfl⟩
  have H1 : Hid (ordOK k) := HT.out.1 (by first | rfl | trivial)
  clear HT
  go_wp2_with fail
  refine (isPage_any a _).mono ?_
  rintro e w ⟨r, rfl, hr, rfl⟩
  have HT : Hid (r = true ↔ plOK a) := hr
  clear hr
  cases r
  · have HN : Hid (¬ plOK a) := fun g => by have := HT.out.2 g; simp at this
    clear HT
    go_wp2
    go_ret
    exact ⟨false, rfl, iff_f (fun g => HN.out g.2.1), rfl⟩
  have H2 : Hid (plOK a) := HT.out.1 (by first | rfl | trivial)
  clear HT
  obtain ⟨p, hp, hp16⟩ := pl_nat H2.out
  subst hp
  have hsh := shl_i H1.out w
  have hb := bsz_le H1.out
  have HBK : Hid (blkOK p k ↔ p % bsz k = 0) := ⟨fun g => g.2.2, fun g => ⟨H1.out, H2.out, g⟩⟩
  clear H1 H2
  generalize bsz k = S at *
  have hs0 : ¬ (S : Int) = 0 := by omega
  have hs1 : ¬ (S : Int) = -1 := by omega
  have htm := tmod_nat p S
  have hmlt : p % S < 16 := Nat.lt_of_le_of_lt (Nat.mod_le _ _) hp16
  by_cases hm : p % S = 0
  · have d1 : ((p : Int) % (S : Int) == 0) = true := mod_beq_t hm
    have OK : Hid (blkOK p k) := HBK.out.2 hm
    clear hm htm HBK hb hmlt
    go_wp2
    go_ret
    exact ⟨true, rfl, iff_t OK.out, rfl⟩
  · have d1 : ((p : Int) % (S : Int) == 0) = false := mod_beq_f hm
    have OK : Hid (¬ blkOK p k) := fun g => hm (HBK.out.1 g)
    clear hm htm HBK hb hmlt
    go_wp2
    go_ret
    exact ⟨false, rfl, iff_f OK.out, rfl⟩
set_option maxHeartbeats 800000 in
theorem blockOf_any (z p : Nat) (k : Int) (w : World) (hk : ordOK k) (hp : p < 16) (hm : p % bsz k = 0) :
    Calls Try.prog 61 #[.slice (some ⟨z, 0, none⟩) 16 16, .int .i64 p, .int .i64 k] w fun e w' => e = .returned (.slice (some ⟨z, p * 2, none⟩) (bsz k) (16 - p)) ∧ w' = w := by
  have hsh := shl_i hk w
  have hf := blk_fit hk hp hm
  have hb := bsz_le hk
  clear hk hm
  generalize bsz k = S at *
  have e1 : IntKind.i64.wrap ((p : Int) + (S : Int)) = ((p + S : Nat) : Int) := by rw [IntKind.wrap_i64] <;> omega
  go_enter Try.func61, Try.ntmps61
  go_wp2_with fail
  go_ret
  exact ⟨by show Ending.returned (Value.slice _ (p + S - p) _) = _; rw [Nat.add_sub_cancel_left], rfl⟩
/-- A part of a list of pairs. -/
theorem part_get {w : World} {z p : Nat} {f g : Nat → Int} (r : Row w z (16 * 2) (uc f g)) {i : Nat} (hi : p + i < 16) : w.cell? ⟨z, p * 2 + i * 2, none⟩ = some (.int .i64 (f (p + i))) ∧ w.cell? ⟨z, p * 2 + i * 2 + 1, none⟩ = some (.int .i64 (g (p + i))) := by
  have := undo_get r hi
  rw [show (p + i) * 2 = p * 2 + i * 2 by omega] at this
  exact this
def allP (f g : Nat → Int) (x y : Int) (p n : Nat) : Prop := ∀ i, i < n → f (p + i) = x ∧ g (p + i) = y
set_option maxRecDepth 10000 in
set_option maxHeartbeats 1600000 in
theorem allAre_any (z p S C : Nat) (f g : Nat → Int) (x y : Int) (w : World) (h : Row w z (16 * 2) (uc f g)) (hf : p + S ≤ 16) :
    Calls Try.prog 69 #[.slice (some ⟨z, p * 2, none⟩) S C, .agg #[.int .i64 x, .int .i64 y]] w fun e w' => ∃ r, e = .returned (.bool r) ∧ (r = true ↔ allP f g x y p S) ∧ Blw w w' := by
  have hb0 : Blw w (w.alloc (.cells #[.int .i64 x, .int .i64 y] 78)) := (Blw.refl _).alloc _
  have r0 := box2 w (.int .i64 x) (.int .i64 y) 78
  have H : Hid (Row (w.alloc (.cells #[.int .i64 x, .int .i64 y] 78)) z (16 * 2) (uc f g)) := h.blw hb0
  clear h
  go_enter Try.func69, Try.ntmps69
  go_wp2_with fail
  revert hb0 r0 H
  generalize w.alloc (.cells #[.int .i64 x, .int .i64 y] 78) = w0
  intro hb0 r0 H
  have HR0 : Hid (Row w0 w.heap.size 2 (fun i => if i = 0 then .int .i64 x else .int .i64 y)) := r0
  have HB0 : Hid (Blw w w0) := hb0
  clear hb0 r0
  go_loopw [9] (fun i wr => ∃ j : Nat, j ≤ S ∧ i = .int .i64 j ∧ allP f g x y p j ∧ Blw w0 wr) (fun i _ => S - (intOf i).toNat)
  case atStart => exact ⟨0, Nat.zero_le _, rfl, fun i hi => absurd hi (Nat.not_lt_zero _), Blw.refl _⟩
  case round =>
    obtain ⟨j, hj, rfl, hok, hb⟩ := hrel
    have HO : Hid (allP f g x y p j) := hok
    have HB : Hid (Blw w0 wr) := hb
    clear hok hb
    by_cases hlt : j < S
    · have hlt' : (j : Int) < S := by omega
      obtain ⟨q0, q1⟩ := part_get (H.out.blw HB.out) (show p + j < 16 by omega)
      have hA : Blw wr (wr.alloc (.cells #[.int .i64 (f (p + j)), .int .i64 (g (p + j))] 78)) := (Blw.refl _).alloc _
      obtain ⟨s0, s1⟩ := get2 (box2 wr (.int .i64 (f (p + j))) (.int .i64 (g (p + j))) 78)
      obtain ⟨u0, u1⟩ := get2 ((HR0.out.blw HB.out).blw hA)
      replace HB : Hid (Blw w0 (wr.alloc (.cells #[.int .i64 (f (p + j)), .int .i64 (g (p + j))] 78))) := HB.out.trans hA
      clear hA
      by_cases h1 : f (p + j) = x
      · have d1 : (f (p + j) == x) = true := by simp [h1]
        by_cases h2 : g (p + j) = y
        · have d2 : (g (p + j) == y) = true := by simp [h2]
          have HN : Hid (allP f g x y p (j + 1)) := fun i hi => by
            by_cases e : i = j
            · subst e; exact ⟨h1, h2⟩
            · exact HO.out i (by omega)
          clear h1 h2 HO
          go_wp2
          go_roundw
          case rel => exact ⟨j + 1, by omega, by go_num, HN.out, HB.out⟩
          case measure => simp [intOf]; omega
        · have d2 : (g (p + j) == y) = false := by simp [h2]
          have HN : Hid (¬ allP f g x y p S) := fun g => h2 (g j hlt).2
          clear h1 h2 HO
          go_wp2
          go_ret
          exact ⟨false, rfl, iff_f HN.out, HB0.out.trans HB.out⟩
      · have d1 : (f (p + j) == x) = false := by simp [h1]
        have HN : Hid (¬ allP f g x y p S) := fun g => h1 (g j hlt).1
        clear h1 HO
        go_wp2
        go_ret
        exact ⟨false, rfl, iff_f HN.out, HB0.out.trans HB.out⟩
    · obtain rfl : j = S := by omega
      have hlt' : ¬ (j : Int) < j := by omega
      go_wp2
      exact bodyPost_ret (v := .bool true) (by simp [results, Try.results69, go_sem]) rfl (by first | exact ⟨true, rfl, iff_t HO.out, HB0.out.trans HB.out⟩ | exact Or.inr ⟨rfl, HO.out, HB0.out.trans HB.out⟩)
/-- The pages p to p + n - 1 are x. -/
def fillF (f : Nat → Int) (p n : Nat) (x : Int) : Nat → Int := fun t => if p ≤ t ∧ t < p + n then x else f t
theorem fill_next {w : World} {z p j : Nat} {f g : Nat → Int} {x y : Int} (r : Row w z (16 * 2) (uc (fillF f p j x) (fillF g p j y))) :
    Row ((w.setCell ⟨z, p * 2 + j * 2, none⟩ (.int .i64 x)).setCell ⟨z, p * 2 + j * 2 + 1, none⟩ (.int .i64 y)) z (16 * 2) (uc (fillF f p (j + 1) x) (fillF g p (j + 1) y)) := by
  have := put_pair r (p + j) x y
  rw [show (p + j) * 2 = p * 2 + j * 2 by omega] at this
  refine this.congr (fun t ht => ?_)
  have e : ∀ (f : Nat → Int) (x : Int), (if t / 2 = p + j then x else fillF f p j x (t / 2)) = fillF f p (j + 1) x (t / 2) := fun f x => by
    unfold fillF
    by_cases e1 : t / 2 = p + j
    · rw [if_pos e1, if_pos (by omega)]
    · rw [if_neg e1]
      by_cases e2 : p ≤ t / 2 ∧ t / 2 < p + j
      · rw [if_pos e2, if_pos (by omega)]
      · rw [if_neg e2, if_neg (by omega)]
  simp only [uc, e]
set_option maxRecDepth 10000 in
set_option maxHeartbeats 1600000 in
theorem fill_any (z p S C : Nat) (f g : Nat → Int) (x y : Int) (w : World) (h : Row w z (16 * 2) (uc f g)) (hf : p + S ≤ 16) :
    Calls Try.prog 60 #[.slice (some ⟨z, p * 2, none⟩) S C, .agg #[.int .i64 x, .int .i64 y]] w fun e w' => e = .returned (.tuple #[]) ∧ Row w' z (16 * 2) (uc (fillF f p S x) (fillF g p S y)) ∧ Mod (fun b => b = z) w w' := by
  have hb0 : Blw w (w.alloc (.cells #[.int .i64 x, .int .i64 y] 78)) := (Blw.refl _).alloc _
  have r0 := box2 w (.int .i64 x) (.int .i64 y) 78
  have hz := h.lt
  have H : Hid (Row (w.alloc (.cells #[.int .i64 x, .int .i64 y] 78)) z (16 * 2) (uc f g)) := h.blw hb0
  clear h
  go_enter Try.func60, Try.ntmps60
  go_wp2_with fail
  revert hb0 r0 H
  generalize w.alloc (.cells #[.int .i64 x, .int .i64 y] 78) = w0
  intro hb0 r0 H
  have HR0 : Hid (Row w0 w.heap.size 2 (fun i => if i = 0 then .int .i64 x else .int .i64 y)) := r0
  have HB0 : Hid (Blw w w0) := hb0
  clear hb0 r0
  go_loopw [7] (fun i wr => ∃ j : Nat, j ≤ S ∧ i = .int .i64 j ∧ Row wr z (16 * 2) (uc (fillF f p j x) (fillF g p j y)) ∧ Mod (fun b => b = z) w0 wr) (fun i _ => S - (intOf i).toNat)
  case atStart => exact ⟨0, Nat.zero_le _, rfl, H.out.congr (fun i hi => by
    have e : ∀ (f : Nat → Int) (x : Int), fillF f p 0 x (i / 2) = f (i / 2) := fun f x => by unfold fillF; rw [if_neg (by omega)]
    simp only [uc, e]), Mod.refl _ _⟩
  case round =>
    obtain ⟨j, hj, rfl, hr, hm⟩ := hrel
    have HR : Hid (Row wr z (16 * 2) (uc (fillF f p j x) (fillF g p j y))) := hr
    have HM : Hid (Mod (fun b => b = z) w0 wr) := hm
    clear hr hm
    by_cases hlt : j < S
    · have hlt' : (j : Int) < S := by omega
      obtain ⟨q0, q1⟩ := part_get HR.out (show p + j < 16 by omega)
      have z0 := HR.out.frozen (p * 2 + j * 2)
      have z1 := HR.out.frozen (p * 2 + j * 2 + 1)
      obtain ⟨u0, u1⟩ := get2 (HR0.out.mod HM.out (by omega))
      have ST : Hid _ := fill_next HR.out
      have SM : Hid (Mod (fun b => b = z) w0 ((wr.setCell ⟨z, p * 2 + j * 2, none⟩ (.int .i64 x)).setCell ⟨z, p * 2 + j * 2 + 1, none⟩ (.int .i64 y))) := HM.out.trans (put_mod (X := fun b => b = z) wr rfl _ _)
      clear HR HM
      go_wp2
      go_roundw
      case rel => exact ⟨j + 1, by omega, by go_num, ST.out, SM.out⟩
      case measure => simp [intOf]; omega
    · obtain rfl : j = S := by omega
      have hlt' : ¬ (j : Int) < j := by omega
      go_wp2
      refine bodyPost_end (results_none rfl _ _ _) rfl ?_
      exact ⟨rfl, HR.out, (HB0.out.mod _).trans HM.out⟩
end Go.Proofs.Ytfmmpddknanhbaa
