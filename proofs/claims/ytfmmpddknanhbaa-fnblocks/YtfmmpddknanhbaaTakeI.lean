/- TakeBlock: the program's; FreeBlocks: the program's. -/
import Derived.Test.YtfmmpddknanhbaaSm
namespace Go.Proofs.Ytfmmpddknanhbaa
open Go.RowKit
set_option linter.unusedSimpArgs false
set_option linter.unusedVariables false
/-- The first of the first list from k on, of n + 1 lists, that has one. -/
def ff (L : Nat → List Nat) : Nat → Nat → Option Nat
  | 0, k => (L k).head?
  | n + 1, k => match (L k).head? with
    | some x => some x
    | none => ff L n (k + 1)
theorem ff_some {L : Nat → List Nat} {k x : Nat} {t : List Nat} (h : L k = x :: t) : ∀ (n k0 : Nat), k0 ≤ k → k ≤ k0 + n → (∀ k', k0 ≤ k' → k' < k → L k' = []) → ff L n k0 = some x
  | 0, k0, h1, h2, h3 => by
    obtain rfl : k0 = k := by omega
    simp [ff, h]
  | n + 1, k0, h1, h2, h3 => by
    by_cases e : k0 = k
    · subst e; simp [ff, h]
    · have := h3 k0 (Nat.le_refl _) (by omega)
      simp only [ff, this, List.head?_nil]
      exact ff_some h n (k0 + 1) (by omega) (by omega) (fun k' a b => h3 k' (by omega) b)
theorem ff_none {L : Nat → List Nat} : ∀ (n k0 : Nat), (∀ k', k0 ≤ k' → k' ≤ k0 + n → L k' = []) → ff L n k0 = none
  | 0, k0, h => by simp [ff, h k0 (Nat.le_refl _) (by omega)]
  | n + 1, k0, h => by
    simp only [ff, h k0 (Nat.le_refl _) (by omega), List.head?_nil]
    exact ff_none n (k0 + 1) (fun k' a b => h k' (by omega) (by omega))
noncomputable def takeF (B : BD) (k : Int) : Option Nat := ff (blocks B.c) (4 - k.toNat) k.toNat
def takeOK (B : BD) (o k : Int) : Prop := B.Good ∧ whoOK o ∧ ordOK k ∧ ∃ x, takeF B k = some x
noncomputable abbrev takeAt (B : BD) (k : Int) : Int := ((takeF B k).getD 0 : Nat)
noncomputable abbrev taken (B : BD) (o k : Int) : BD := ⟨16, fillF B.c ((takeF B k).getD 0) (bsz k) o, 16, B.l⟩
theorem pk_mem {p : Nat → Bool} {j x : Nat} (h : x ∈ pk p j) : x < j ∧ p x = true := by
  unfold pk at h
  rw [List.mem_filter, List.mem_range] at h
  exact h
theorem block_max {c : Nat → Int} {k x : Nat} (h : x ∈ blocks c k) : x < 16 ∧ maxB c k x := by
  obtain ⟨h1, h2⟩ := pk_mem h
  exact ⟨h1, by simpa [blkB] using h2⟩
/-- What is taken begins where a block of the order may, and is nobody's. -/
theorem take_fact {B : BD} (g : B.Good) {k0 k x : Nat} {t : List Nat} (hk : k0 ≤ k) (hk4 : k ≤ 4) (h : blocks B.c k = x :: t) : x < 16 ∧ x % 2 ^ k0 = 0 ∧ x + 2 ^ k0 ≤ 16 ∧ ∀ i, i < 2 ^ k0 → B.c (x + i) = 0 ∧ B.l (x + i) = 0 := by
  obtain ⟨h1, h2⟩ := block_max (c := B.c) (k := k) (x := x) (by rw [h]; simp)
  have a1 := h2.1.1
  have fit := gr_fit hk4 h2.1 h1
  have hp : 2 ^ k0 ≤ 2 ^ k := Nat.pow_le_pow_right (by omega) hk
  refine ⟨h1, ?_, by omega, ?_⟩
  · rcases le4 hk4 with rfl | rfl | rfl | rfl | rfl <;> rcases le4 (show k0 ≤ 4 by omega) with rfl | rfl | rfl | rfl | rfl <;> simp only [Nat.reduceAdd, Nat.reducePow] at * <;> omega
  · exact (all_free g (show x + 2 ^ k0 ≤ 16 by omega)).2 (fbP_sub h2.1.2 (Nat.le_refl _) (by omega))
set_option maxRecDepth 10000 in
set_option maxHeartbeats 3200000 in
theorem implTake_any (b : BV) (B : BD) (o k : Int) (Y : Nat → Prop) (w : World) (h : BookAt Y w b B) (hY : ∀ x, Y x → x < w.heap.size) :
    Calls Try.prog 15 #[b.val B, .int .i64 o, .int .i64 k] w (GivesN (resN (takeOK B o k) (taken B o k) (takeAt B k)) w) := by
  have hb0 : Blw w ((w.alloc (.cells #[.slice b.a1 B.n b.c1, .slice b.a2 B.k b.c2] 25)).alloc (.cells #[.slice none 0 0, .slice none 0 0] 25)) := ((Blw.refl _).alloc _).alloc _
  have r1 := box2 (w.alloc (.cells #[.slice b.a1 B.n b.c1, .slice b.a2 B.k b.c2] 25)) (.slice none 0 0) (.slice none 0 0) 25
  rw [World.size_alloc] at r1
  have HA : Hid (BookAt Y ((w.alloc (.cells #[.slice b.a1 B.n b.c1, .slice b.a2 B.k b.c2] 25)).alloc (.cells #[.slice none 0 0, .slice none 0 0] 25)) b B) := h.blw hb0
  have hz : ((w.alloc (.cells #[.slice b.a1 B.n b.c1, .slice b.a2 B.k b.c2] 25)).alloc (.cells #[.slice none 0 0, .slice none 0 0] 25)).heap.size = w.heap.size + 1 + 1 := by simp
  clear h
  go_enter Try.func15, Try.ntmps15
  go_wp2_with fail
  refine (hold_any b B Y _ HA.out (fun x hx => by have := hY x hx; simp; omega)).mono ?_
  rintro e w1 ⟨h1, hb1⟩
  replace r1 := r1.blw hb1
  have HB : Hid (Blw w w1) := hb0.trans hb1
  have HR1 : Hid (Row w1 (w.heap.size + 1) 2 (fun i => if i = 0 then .slice none 0 0 else .slice none 0 0)) := r1
  obtain ⟨t0, t1⟩ := get2 r1
  have f0 := r1.frozen 0
  have f1 := r1.frozen 1
  clear hb0 HA r1 hb1
  rcases h1 with ⟨z, hg, rfl, hrow, hlo⟩ | ⟨hg, rfl⟩
  case inr =>
    have HG : Hid (¬ B.Good) := hg
    clear hg
    go_wp2
    exact bodyPost_ret (v := .tuple #[BV.zero.val BD.zero, .int .i64 0, .bool false]) (by simp [results, Try.results15, go_sem, t0, t1]) rfl (zero_givesN (by omega) (Or.inr ⟨fun g => HG.out g.1, rfl, rfl, rfl⟩) HB.out)
  rw [hz] at hlo
  have HG : Hid B.Good := hg
  have HRW : Hid (Row w1 z (16 * 2) (uc B.c B.l)) := hrow
  clear hg hrow hz
  go_wp2_with fail
  refine (isOwner_any o _).mono ?_
  rintro e w1 ⟨r, rfl, hr, rfl⟩
  have HT : Hid (r = true ↔ whoOK o) := hr
  clear hr
  cases r
  · have HN : Hid (¬ whoOK o) := fun g => by have := HT.out.2 g; simp at this
    clear HT
    go_wp2
    exact bodyPost_ret (v := .tuple #[BV.zero.val BD.zero, .int .i64 0, .bool false]) (by simp [results, Try.results15, go_sem, t0, t1]) rfl (zero_givesN (by omega) (Or.inr ⟨fun g => HN.out g.2.1, rfl, rfl, rfl⟩) HB.out)
  have H1 : Hid (whoOK o) := HT.out.1 (by first | rfl | trivial)
  clear HT
  go_wp2_with fail
  refine (isOrder_any k _).mono ?_
  rintro e w1 ⟨r, rfl, hr, rfl⟩
  have HT : Hid (r = true ↔ ordOK k) := hr
  clear hr
  cases r
  · have HN : Hid (¬ ordOK k) := fun g => by have := HT.out.2 g; simp at this
    clear HT
    go_wp2
    exact bodyPost_ret (v := .tuple #[BV.zero.val BD.zero, .int .i64 0, .bool false]) (by simp [results, Try.results15, go_sem, t0, t1]) rfl (zero_givesN (by omega) (Or.inr ⟨fun g => HN.out g.2.2.1, rfl, rfl, rfl⟩) HB.out)
  have H2 : Hid (ordOK k) := HT.out.1 (by first | rfl | trivial)
  clear HT
  obtain ⟨k0, hk0, hk4⟩ : ∃ k0 : Nat, k = k0 ∧ k0 ≤ 4 := ⟨k.toNat, by have := H2.out; unfold ordOK at this; omega, by have := H2.out; unfold ordOK at this; omega⟩
  subst hk0
  have HZL : Hid (w.heap.size + 1 < w1.heap.size) := HR1.out.lt
  clear t0 t1 f0 f1
  go_wp2_with fail
  refine (freeBlocks_any z B _ HG.out HRW.out).mono ?_
  rintro e w2 ⟨zf, v, rfl, hBl⟩
  have HBl : Hid (Bl w1 w2 zf v (blocks B.c)) := hBl
  replace HRW : Hid (Row w2 z (16 * 2) (uc B.c B.l)) := HRW.out.blw hBl.blw
  replace HB : Hid (Blw w w2) := HB.out.trans hBl.blw
  replace HR1 : Hid (Row w2 (w.heap.size + 1) 2 (fun i => if i = 0 then .slice none 0 0 else .slice none 0 0)) := HR1.out.blw hBl.blw
  replace HZL : Hid (w.heap.size + 1 < w2.heap.size) := HR1.out.lt
  clear hBl
  go_wp2_with fail
  refine (smallest_any zf k0 v (blocks B.c) w1 _ hk4 HBl.out).mono ?_
  rintro e w2 ⟨hs, rfl⟩
  obtain ⟨t0, t1⟩ := get2 HR1.out
  have f0 := HR1.out.frozen 0
  have f1 := HR1.out.frozen 1
  rcases hs with ⟨k, x, t, h1, h2, hL, h3, rfl⟩ | ⟨h3, rfl⟩
  case inr =>
    have HN : Hid (¬ takeOK B o k0) := fun g => by
      obtain ⟨x, hx⟩ := g.2.2.2
      have : takeF B (k0 : Int) = none := ff_none _ _ (fun k' a b => h3 k' (by omega) (by omega))
      rw [this] at hx
      cases hx
    clear h3 HBl
    go_wp2
    exact bodyPost_ret (v := .tuple #[BV.zero.val BD.zero, .int .i64 0, .bool false]) (by simp [results, Try.results15, go_sem, t0, t1]) rfl (zero_givesN (by omega) (Or.inr ⟨HN.out, rfl, rfl, rfl⟩) HB.out)
  have hF : takeF B (k0 : Int) = some x := ff_some hL _ _ (by rw [Int.toNat_natCast]; exact h1) (by rw [Int.toNat_natCast]; omega) (fun k' a b => h3 k' (by rw [Int.toNat_natCast] at a; exact a) b)
  obtain ⟨x16, xm, xf, xall⟩ := take_fact HG.out h1 h2 hL
  have hbz := bsz_nat k0
  have HXM : Hid (x % bsz (k0 : Int) = 0) := by show _ = _; rw [hbz]; exact xm
  have HXF : Hid (x + bsz (k0 : Int) ≤ 16) := by show _ ≤ _; rw [hbz]; exact xf
  have HXA : Hid (∀ i, i < bsz (k0 : Int) → B.l (x + i) = 0) := fun i hi => (xall i (by rw [← hbz]; exact hi)).2
  have HF : Hid (takeF B (k0 : Int) = some x) := hF
  clear t0 t1 f0 f1 h1 h2 hL h3 hF xm xf xall hbz HBl
  go_wp2_with fail
  refine (blockOf_any z x (k0 : Int) _ H2.out x16 HXM.out).mono ?_
  rintro e w2 ⟨rfl, rfl⟩
  go_wp2_with fail
  refine (fill_any z x (bsz (k0 : Int)) (16 - x) B.c B.l o 0 _ HRW.out HXF.out).mono ?_
  rintro e w3 ⟨rfl, hrow, hm3⟩
  have HNR : Hid (Row w3 z (16 * 2) (uc (fillF B.c x (bsz (k0 : Int)) o) B.l)) := hrow.congr (fun t ht => by
    simp only [uc, fill_same HXA.out])
  have hz1 := HZL.out
  have HNB : Hid (Blw w w3) := Mod.blw HB.out hm3 (fun i hi => by omega)
  have HRR : Hid (Row w3 (w.heap.size + 1) 2 (fun i => if i = 0 then .slice none 0 0 else .slice none 0 0)) := HR1.out.mod hm3 (by omega)
  have hzl : w.heap.size + 1 < w3.heap.size := HRR.out.lt
  clear hrow hm3 HRW HB HR1 hz1 HZL
  go_wp2_with fail
  refine (giveOut_any z (fillF B.c x (bsz (k0 : Int)) o) B.l _ HNR.out).mono ?_
  rintro e w4 ⟨b', rfl, own, hb3⟩
  have r3 := HRR.out.blw hb3
  obtain ⟨t0, t1⟩ := get2 r3
  have f0 := r3.frozen 0
  have f1 := r3.frozen 1
  have FIN : Hid _ := fin_givesN (z := w.heap.size + 1) (out := resN (takeOK B o k0) (taken B o k0) (takeAt B k0)) (w := w) (R := ⟨16, fillF B.c x (bsz (k0 : Int)) o, 16, B.l⟩) (v := (x : Int)) (Or.inl ⟨⟨HG.out, H1.out, H2.out, x, HF.out⟩, by show _ = BD.mk 16 (fillF B.c ((takeF B (k0 : Int)).getD 0) _ o) 16 B.l; rw [HF.out]; rfl, by show _ = (((takeF B (k0 : Int)).getD 0 : Nat) : Int); rw [HF.out]; rfl, rfl⟩) (by show 16 + 16 ≤ _; omega) (HNB.out.trans hb3) (by omega) own (fun x hx => ⟨by omega, by omega, hx.2⟩)
  clear own hb3 r3 HNR HNB HRR HXM HXF HXA HF
  go_wp2
  exact bodyPost_ret (v := .tuple #[b'.val ⟨16, fillF B.c x (bsz (k0 : Int)) o, 16, B.l⟩, .int .i64 x, .bool true]) (by simp [results, Try.results15, go_sem, t0, t1]) rfl FIN.out
end Go.Proofs.Ytfmmpddknanhbaa
