/- FreeBlock: the model's and the program's. -/
import Derived.Test.YtfmmpddknanhbaaBlk
namespace Go.Proofs.Ytfmmpddknanhbaa
open Go.RowKit
set_option linter.unusedSimpArgs false
set_option linter.unusedVariables false
def freeOK (B : BD) (o a k : Int) : Prop := B.Good ∧ whoOK o ∧ blkOK a k ∧ allP B.c B.l o 0 a.toNat (bsz k)
abbrev freed (B : BD) (a k : Int) : BD := ⟨16, fillF B.c a.toNat (bsz k) 0, 16, B.l⟩
theorem fill_same {g : Nat → Int} {p n : Nat} {x : Int} (h : ∀ i, i < n → g (p + i) = x) (t : Nat) : fillF g p n x t = g t := by
  unfold fillF
  by_cases e : p ≤ t ∧ t < p + n
  · rw [if_pos e]
    have := h (t - p) (by omega)
    rw [show p + (t - p) = t by omega] at this
    exact this.symm
  · rw [if_neg e]
set_option maxRecDepth 10000 in
set_option maxHeartbeats 3200000 in
theorem implFree_any (b : BV) (B : BD) (o a k : Int) (Y : Nat → Prop) (w : World) (h : BookAt Y w b B) (hY : ∀ x, Y x → x < w.heap.size) :
    Calls Try.prog 20 #[b.val B, .int .i64 o, .int .i64 a, .int .i64 k] w (GivesB (resO (freeOK B o a k) (freed B a k)) w) := by
  have hb0 : Blw w ((w.alloc (.cells #[.slice b.a1 B.n b.c1, .slice b.a2 B.k b.c2] 25)).alloc (.cells #[.slice none 0 0, .slice none 0 0] 25)) := ((Blw.refl _).alloc _).alloc _
  have r1 := box2 (w.alloc (.cells #[.slice b.a1 B.n b.c1, .slice b.a2 B.k b.c2] 25)) (.slice none 0 0) (.slice none 0 0) 25
  rw [World.size_alloc] at r1
  have HA : Hid (BookAt Y ((w.alloc (.cells #[.slice b.a1 B.n b.c1, .slice b.a2 B.k b.c2] 25)).alloc (.cells #[.slice none 0 0, .slice none 0 0] 25)) b B) := h.blw hb0
  have hz : ((w.alloc (.cells #[.slice b.a1 B.n b.c1, .slice b.a2 B.k b.c2] 25)).alloc (.cells #[.slice none 0 0, .slice none 0 0] 25)).heap.size = w.heap.size + 1 + 1 := by simp
  clear h
  go_enter Try.func20, Try.ntmps20
  go_wp2_with fail
  refine (hold_any b B Y _ HA.out (fun x hx => by have := hY x hx; simp; omega)).mono ?_
  rintro e w1 ⟨h1, hb1⟩
  replace r1 := r1.blw hb1
  have HB : Hid (Blw w w1) := hb0.trans hb1
  have HR1 : Hid (Row w1 (w.heap.size + 1) 2 (fun i => if i = 0 then .slice none 0 0 else .slice none 0 0)) := r1
  obtain ⟨t0, t1⟩ := get2 r1
  have f0 := r1.frozen 0
  have f1 := r1.frozen 1
  clear hb0 HA r1 hb1
  rcases h1 with ⟨z, hg, rfl, hrow, hlo⟩ | ⟨hg, rfl⟩
  case inr =>
    have HG : Hid (¬ B.Good) := hg
    clear hg
    go_wp2
    exact bodyPost_ret (v := .tuple #[BV.zero.val BD.zero, .bool false]) (by simp [results, Try.results20, go_sem, t0, t1]) rfl (zero_gives (Or.inr ⟨fun g => HG.out g.1, rfl, rfl⟩) HB.out)
  rw [hz] at hlo
  have HG : Hid B.Good := hg
  have HRW : Hid (Row w1 z (16 * 2) (uc B.c B.l)) := hrow
  clear hg hrow hz
  go_wp2_with fail
  refine (isOwner_any o _).mono ?_
  rintro e w1 ⟨r, rfl, hr, rfl⟩
  have HT : Hid (r = true ↔ whoOK o) := hr
  clear hr
  cases r
  · have HN : Hid (¬ whoOK o) := fun g => by have := HT.out.2 g; simp at this
    clear HT
    go_wp2
    exact bodyPost_ret (v := .tuple #[BV.zero.val BD.zero, .bool false]) (by simp [results, Try.results20, go_sem, t0, t1]) rfl (zero_gives (Or.inr ⟨fun g => HN.out g.2.1, rfl, rfl⟩) HB.out)
  have H1 : Hid (whoOK o) := HT.out.1 (by first | rfl | trivial)
  clear HT
  go_wp2_with fail
  refine (isBlock_any a k _).mono ?_
  rintro e w1 ⟨r, rfl, hr, rfl⟩
  have HT : Hid (r = true ↔ blkOK a k) := hr
  clear hr
  cases r
  · have HN : Hid (¬ blkOK a k) := fun g => by have := HT.out.2 g; simp at this
    clear HT
    go_wp2
    exact bodyPost_ret (v := .tuple #[BV.zero.val BD.zero, .bool false]) (by simp [results, Try.results20, go_sem, t0, t1]) rfl (zero_gives (Or.inr ⟨fun g => HN.out g.2.2.1, rfl, rfl⟩) HB.out)
  have H2 : Hid (blkOK a k) := HT.out.1 (by first | rfl | trivial)
  clear HT
  obtain ⟨p, hp, hp16⟩ := pl_nat H2.out.2.1
  subst hp
  have hmod : p % bsz k = 0 := H2.out.2.2
  have hfit := blk_fit H2.out.1 hp16 hmod
  go_wp2_with fail
  refine (blockOf_any z p k _ H2.out.1 hp16 hmod).mono ?_
  rintro e w1 ⟨rfl, rfl⟩
  have HF : Hid (p + bsz k ≤ 16) := hfit
  have HZL : Hid (w.heap.size + 1 < w1.heap.size) := HR1.out.lt
  clear hmod hfit
  go_wp2_with fail
  refine (allAre_any z p (bsz k) (16 - p) B.c B.l o 0 _ HRW.out HF.out).mono ?_
  rintro e w2 ⟨r, rfl, hr, hb2⟩
  have HT : Hid (r = true ↔ allP B.c B.l o 0 p (bsz k)) := hr
  replace HRW : Hid (Row w2 z (16 * 2) (uc B.c B.l)) := HRW.out.blw hb2
  replace HB : Hid (Blw w w2) := HB.out.trans hb2
  replace HR1 : Hid (Row w2 (w.heap.size + 1) 2 (fun i => if i = 0 then .slice none 0 0 else .slice none 0 0)) := HR1.out.blw hb2
  clear hr hb2 t0 t1 f0 f1
  obtain ⟨t0, t1⟩ := get2 HR1.out
  have f0 := HR1.out.frozen 0
  have f1 := HR1.out.frozen 1
  cases r
  · have HN : Hid (¬ allP B.c B.l o 0 p (bsz k)) := fun g => by have := HT.out.2 g; simp at this
    clear HT
    go_wp2
    exact bodyPost_ret (v := .tuple #[BV.zero.val BD.zero, .bool false]) (by simp [results, Try.results20, go_sem, t0, t1]) rfl (zero_gives (Or.inr ⟨fun g => HN.out g.2.2.2, rfl, rfl⟩) HB.out)
  have H3 : Hid (allP B.c B.l o 0 p (bsz k)) := HT.out.1 (by first | rfl | trivial)
  clear HT
  clear t0 t1 f0 f1
  go_wp2_with fail
  refine (fill_any z p (bsz k) (16 - p) B.c B.l 0 0 _ HRW.out HF.out).mono ?_
  rintro e w3 ⟨rfl, hrow, hm3⟩
  have HNR : Hid (Row w3 z (16 * 2) (uc (fillF B.c p (bsz k) 0) B.l)) := hrow.congr (fun t ht => by
    simp only [uc, fill_same (fun i hi => (H3.out i hi).2)])
  have hz1 := HZL.out
  have HNB : Hid (Blw w w3) := Mod.blw HB.out hm3 (fun i hi => by omega)
  have HRR : Hid (Row w3 (w.heap.size + 1) 2 (fun i => if i = 0 then .slice none 0 0 else .slice none 0 0)) := HR1.out.mod hm3 (by omega)
  have hzl : w.heap.size + 1 < w3.heap.size := HRR.out.lt
  clear hrow hm3 HRW HB HR1 hz1 HZL
  go_wp2_with fail
  refine (giveOut_any z (fillF B.c p (bsz k) 0) B.l _ HNR.out).mono ?_
  rintro e w4 ⟨b', rfl, own, hb3⟩
  have r3 := HRR.out.blw hb3
  obtain ⟨t0, t1⟩ := get2 r3
  have f0 := r3.frozen 0
  have f1 := r3.frozen 1
  have FIN : Hid _ := fin_gives (out := resO (freeOK B o p k) (freed B p k)) (w := w) (R := ⟨16, fillF B.c p (bsz k) 0, 16, B.l⟩) (Or.inl ⟨⟨HG.out, H1.out, H2.out, H3.out⟩, rfl, rfl⟩) (by show 16 + 16 ≤ _; omega) (HNB.out.trans hb3) own (fun x hx => ⟨by omega, hx.2⟩)
  clear own hb3 r3 HNR HNB HRR
  go_wp2
  exact bodyPost_ret (v := .tuple #[b'.val ⟨16, fillF B.c p (bsz k) 0, 16, B.l⟩, .bool true]) (by simp [results, Try.results20, go_sem, t0, t1]) rfl FIN.out
theorem fill_set {w : World} {y p j : Nat} {f : Nat → Int} {x : Int} (r : Row w y 16 (fun i => .int .i64 (fillF f p j x i))) : Row (w.setCell ⟨y, p + j, none⟩ (.int .i64 x)) y 16 (fun i => .int .i64 (fillF f p (j + 1) x i)) :=
  (r.set (p + j) _).congr (fun i hi => by
    unfold fillF
    by_cases e : i = p + j
    · rw [if_pos e, if_pos (by omega)]
    · rw [if_neg e]
      by_cases e2 : p ≤ i ∧ i < p + j
      · rw [if_pos e2, if_pos (by omega)]
      · rw [if_neg e2, if_neg (by omega)])
/-- What stands while a block is freed. -/
structure Freeing (w wr : World) (zb y1 y2 : Nat) (v0 v1 a0 a1 : Value) (c l : Nat → Int) (x : Int) (p j : Nat) : Prop where
  r1 : Row wr y1 16 (fun i => .int .i64 (fillF c p j x i))
  r2 : Row wr y2 16 (fun i => .int .i64 (l i))
  bx : Row wr zb 2 (fun i => if i = 0 then v0 else v1)
  ba : Row wr w.heap.size 2 (fun i => if i = 0 then a0 else a1)
  rs : Row wr (w.heap.size + 1) 2 (fun i => if i = 0 then .slice none 0 0 else .slice none 0 0)
  blw : Blw w wr
  lo : w.heap.size + 1 < y1 ∧ w.heap.size + 1 < y2 ∧ w.heap.size + 1 < zb
  ne : y1 ≠ y2 ∧ y1 ≠ zb ∧ y2 ≠ zb
theorem Freeing.step {w wr : World} {zb y1 y2 : Nat} {v0 v1 a0 a1 : Value} {c l : Nat → Int} {x : Int} {p j : Nat} (D : Freeing w wr zb y1 y2 v0 v1 a0 a1 c l x p j) : Freeing w (wr.setCell ⟨y1, p + j, none⟩ (.int .i64 x)) zb y1 y2 v0 v1 a0 a1 c l x p (j + 1) := by
  obtain ⟨n1, n2, n3⟩ := D.ne
  obtain ⟨l1, l2, l3⟩ := D.lo
  have m1 : Mod (fun x => x = y1) wr (wr.setCell ⟨y1, p + j, none⟩ (.int .i64 x)) := Mod.setCell (X := fun x => x = y1) _ (p := ⟨y1, p + j, none⟩) rfl _
  exact ⟨fill_set D.r1, D.r2.mod m1 (fun e => n1 e.symm), D.bx.mod m1 (fun e => n2 e.symm), D.ba.mod m1 (by omega), D.rs.mod m1 (by omega), Mod.blw D.blw m1 (fun i hi => by omega), D.lo, D.ne⟩
set_option maxRecDepth 10000 in
set_option maxHeartbeats 6400000 in
theorem specFree_any (b : BV) (B : BD) (o a k : Int) (Y : Nat → Prop) (w : World) (h : BookAt Y w b B) (hY : ∀ x, Y x → x < w.heap.size) :
    Calls Try.prog 26 #[b.val B, .int .i64 o, .int .i64 a, .int .i64 k] w (GivesB (resO (freeOK B o a k) (freed B a k)) w) := by
  have hb0 : Blw w ((w.alloc (.cells #[.slice b.a1 B.n b.c1, .slice b.a2 B.k b.c2] 25)).alloc (.cells #[.slice none 0 0, .slice none 0 0] 25)) := ((Blw.refl _).alloc _).alloc _
  have r0 := (box2 w (.slice b.a1 B.n b.c1) (.slice b.a2 B.k b.c2) 25).blw ((Blw.refl _).alloc (.cells #[.slice none 0 0, .slice none 0 0] 25))
  have r1 := box2 (w.alloc (.cells #[.slice b.a1 B.n b.c1, .slice b.a2 B.k b.c2] 25)) (.slice none 0 0) (.slice none 0 0) 25
  rw [World.size_alloc] at r1
  have HA : Hid (BookAt Y ((w.alloc (.cells #[.slice b.a1 B.n b.c1, .slice b.a2 B.k b.c2] 25)).alloc (.cells #[.slice none 0 0, .slice none 0 0] 25)) b B) := h.blw hb0
  clear h
  go_enter Try.func26, Try.ntmps26
  go_wp2_with fail
  refine (specGood_any b B Y _ HA.out).mono ?_
  rintro e w1 ⟨r, rfl, hr, hb1⟩
  have HT : Hid (r = true ↔ B.Good) := hr
  have HB : Hid (Blw w w1) := hb0.trans hb1
  have HR0 : Hid (Row w1 w.heap.size 2 (fun i => if i = 0 then .slice b.a1 B.n b.c1 else .slice b.a2 B.k b.c2)) := r0.blw hb1
  have HR1 : Hid (Row w1 (w.heap.size + 1) 2 (fun i => if i = 0 then .slice none 0 0 else .slice none 0 0)) := r1.blw hb1
  replace HA : Hid (BookAt Y w1 b B) := HA.out.blw hb1
  obtain ⟨t0, t1⟩ := get2 HR1.out
  have f0 := HR1.out.frozen 0
  have f1 := HR1.out.frozen 1
  clear hr hb0 hb1 r0 r1
  cases r
  · have HN : Hid (¬ B.Good) := fun g => by have := HT.out.2 g; simp at this
    clear HT
    go_wp2
    exact bodyPost_ret (v := .tuple #[BV.zero.val BD.zero, .bool false]) (by simp [results, Try.results26, go_sem, t0, t1]) rfl (zero_gives (Or.inr ⟨fun g => HN.out g.1, rfl, rfl⟩) HB.out)
  have HG : Hid (B.Good) := HT.out.1 (by first | rfl | trivial)
  clear HT
  go_wp2_with fail
  refine (l5Who_any o _).mono ?_
  rintro e w1 ⟨r, rfl, hr, rfl⟩
  have HT : Hid (r = true ↔ whoOK o) := hr
  clear hr
  cases r
  · have HN : Hid (¬ whoOK o) := fun g => by have := HT.out.2 g; simp at this
    clear HT
    go_wp2
    exact bodyPost_ret (v := .tuple #[BV.zero.val BD.zero, .bool false]) (by simp [results, Try.results26, go_sem, t0, t1]) rfl (zero_gives (Or.inr ⟨fun g => HN.out g.2.1, rfl, rfl⟩) HB.out)
  have H1 : Hid (whoOK o) := HT.out.1 (by first | rfl | trivial)
  clear HT
  go_wp2_with fail
  refine (l1In_any k 0 4 _).mono ?_
  rintro e w1 ⟨r, rfl, hr, rfl⟩
  have HT : Hid (r = true ↔ (0 ≤ k ∧ k ≤ 4)) := hr
  clear hr
  cases r
  · have HN : Hid (¬ (0 ≤ k ∧ k ≤ 4)) := fun g => by have := HT.out.2 g; simp at this
    clear HT
    go_wp2
    exact bodyPost_ret (v := .tuple #[BV.zero.val BD.zero, .bool false]) (by simp [results, Try.results26, go_sem, t0, t1]) rfl (zero_gives (Or.inr ⟨fun g => HN.out g.2.2.1.1, rfl, rfl⟩) HB.out)
  have H2 : Hid (ordOK k) := HT.out.1 (by first | rfl | trivial)
  clear HT
  go_wp2_with fail
  refine (l1In_any a 0 15 _).mono ?_
  rintro e w1 ⟨r, rfl, hr, rfl⟩
  have HT : Hid (r = true ↔ (0 ≤ a ∧ a ≤ 15)) := hr
  clear hr
  cases r
  · have HN : Hid (¬ (0 ≤ a ∧ a ≤ 15)) := fun g => by have := HT.out.2 g; simp at this
    clear HT
    go_wp2
    exact bodyPost_ret (v := .tuple #[BV.zero.val BD.zero, .bool false]) (by simp [results, Try.results26, go_sem, t0, t1]) rfl (zero_gives (Or.inr ⟨fun g => HN.out g.2.2.1.2.1, rfl, rfl⟩) HB.out)
  have H3 : Hid (plOK a) := HT.out.1 (by first | rfl | trivial)
  clear HT
  obtain ⟨p, hp, hp16⟩ := pl_nat H3.out
  subst hp
  have hsh := shl_u H2.out
  have hbs := bsz_le H2.out
  have HBK : Hid (blkOK p k ↔ p % bsz k = 0) := ⟨fun g => g.2.2, fun g => ⟨H2.out, H3.out, g⟩⟩
  have HFT : Hid (p % bsz k = 0 → p + bsz k ≤ 16) := fun g => blk_fit H2.out hp16 g
  have hk0 : 0 ≤ k ∧ k ≤ 4 := H2.out
  obtain ⟨S, hS⟩ : ∃ S, S = bsz k := ⟨_, rfl⟩
  rw [← hS] at hsh hbs HBK HFT
  have HS : Hid (S = bsz k) := hS
  clear hS
  have hs0 : ¬ (S : Int) = 0 := by omega
  have hs1 : ¬ (S : Int) = -1 := by omega
  have hwk : IntKind.u64.wrap k = k := by rw [IntKind.wrap_u64] <;> omega
  clear hk0
  by_cases hm : p % S = 0
  case neg =>
    have d1 : ((p : Int) % (S : Int) != 0) = true := by have := mod_beq_f hm; simp only [bne, this, Bool.not_false]
    have HN : Hid (¬ blkOK p k) := fun g => hm (HBK.out.1 g)
    clear hm
    go_wp2
    exact bodyPost_ret (v := .tuple #[BV.zero.val BD.zero, .bool false]) (by simp [results, Try.results26, go_sem, t0, t1]) rfl (zero_gives (Or.inr ⟨fun g => HN.out g.2.2.1, rfl, rfl⟩) HB.out)
  have d1 : ((p : Int) % (S : Int) != 0) = false := by have := mod_beq_t hm; simp only [bne, this, Bool.not_true]
  have H4 : Hid (blkOK p k) := HBK.out.2 hm
  have hfit := HFT.out hm
  clear hm HBK HFT
  obtain ⟨n, c, kk, l⟩ := B
  obtain ⟨g1, g2, c1, c2⟩ := b
  have hn16 : n = 16 := HG.out.n
  have hk16 : kk = 16 := HG.out.k
  subst hn16 hk16
  simp only [BV.val] at *
  obtain ⟨p0, p1⟩ := get2 HR0.out
  have HZ : Hid (w.heap.size + 1 < w1.heap.size) := HR1.out.lt
  go_wp2_with fail
  clear p0 p1 t0 t1 f0 f1 d1
  refine (l5Own_any ⟨g1, g2, c1, c2⟩ ⟨16, c, 16, l⟩ Y _ (by show 16 + 16 ≤ _; omega) HA.out).mono ?_
  rintro e w2 ⟨⟨u1, u2, u3, u4⟩, rfl, own, hb2⟩
  obtain ⟨y1, y2, ey1, ey2, x1, x2, hne, q1, q2⟩ := own_rows own
  dsimp only at ey1 ey2
  subst ey1 ey2
  simp only [BV.val]
  have hA : Blw w2 (w2.alloc (.cells #[.slice (some ⟨y1, 0, none⟩) 16 u3, .slice (some ⟨y2, 0, none⟩) 16 u4] 25)) := (Blw.refl _).alloc _
  have hz := HZ.out
  have D0 : Hid (Freeing w (w2.alloc (.cells #[.slice (some ⟨y1, 0, none⟩) 16 u3, .slice (some ⟨y2, 0, none⟩) 16 u4] 25)) w2.heap.size y1 y2 (.slice (some ⟨y1, 0, none⟩) 16 u3) (.slice (some ⟨y2, 0, none⟩) 16 u4) (.slice g1 16 c1) (.slice g2 16 c2) c l 0 p 0) :=
    ⟨(q1.blw hA).congr (fun i hi => by unfold fillF; rw [if_neg (by omega)]), q2.blw hA, box2 w2 _ _ 25, (HR0.out.blw hb2).blw hA, (HR1.out.blw hb2).blw hA, (HB.out.trans hb2).trans hA, by have := hb2.size; omega, ⟨hne, by omega, by omega⟩⟩
  have HA2 : Hid (BookAt Y (w2.alloc (.cells #[.slice (some ⟨y1, 0, none⟩) 16 u3, .slice (some ⟨y2, 0, none⟩) 16 u4] 25)) ⟨g1, g2, c1, c2⟩ ⟨16, c, 16, l⟩) := (HA.out.blw hb2).blw hA
  have HYL : Hid (∀ x, w.heap.size + 1 < x → x = y1 → w1.heap.size + 1 < x ∨ w1.heap.size + 1 = x ∨ True) := fun _ _ _ => Or.inr (Or.inr trivial)
  have HB1 : Hid (Blw w w1) := HB.out
  clear own q1 q2 hA hb2 HR1 HR0 HB HA hz HZ x2 hne HYL
  have hw1 := HB1.out.size
  have HX2 : Hid (∀ x, Y x → x < y1) := fun x hx => by have h1 : x < w.heap.size := hY x hx; have h2 := x1.1; omega
  clear x1 hw1 HB1
  go_wp2_with fail
  generalize w2.heap.size = zb at *
  generalize w2.alloc (.cells #[.slice (some ⟨y1, 0, none⟩) 16 u3, .slice (some ⟨y2, 0, none⟩) 16 u4] 25) = w3 at *
  have e1 : IntKind.i64.wrap ((p : Int) + (S : Int)) = ((p + S : Nat) : Int) := by rw [IntKind.wrap_i64] <;> omega
  go_loopw [11] (fun i wr => ∃ j : Nat, j ≤ S ∧ i = .int .i64 ((p + j : Nat) : Int) ∧ allP c l o 0 p j ∧ Freeing w wr zb y1 y2 (.slice (some ⟨y1, 0, none⟩) 16 u3) (.slice (some ⟨y2, 0, none⟩) 16 u4) (.slice g1 16 c1) (.slice g2 16 c2) c l 0 p j ∧ Mod (fun b => b = y1) w3 wr) (fun i _ => p + S - (intOf i).toNat)
  case atStart => exact ⟨0, by omega, rfl, fun i hi => absurd hi (Nat.not_lt_zero _), D0.out, Mod.refl _ _⟩
  case round =>
    obtain ⟨j, hj, rfl, hok, hD, hm3⟩ := hrel
    clear D0
    have HO : Hid (allP c l o 0 p j) := hok
    have HD : Hid (Freeing w wr zb y1 y2 (.slice (some ⟨y1, 0, none⟩) 16 u3) (.slice (some ⟨y2, 0, none⟩) 16 u4) (.slice g1 16 c1) (.slice g2 16 c2) c l 0 p j) := hD
    have HM : Hid (Mod (fun b => b = y1) w3 wr) := hm3
    clear hok hD hm3
    obtain ⟨p0, p1⟩ := get2 HD.out.ba
    obtain ⟨v0, v1⟩ := get2 HD.out.bx
    by_cases hlt : j < S
    · have hlt' : ((p + j : Nat) : Int) < ((p + S : Nat) : Int) := by omega
      have hj16 : p + j < 16 := by omega
      have hj16' : ((p + j : Nat) : Int) < 16 := by omega
      obtain ⟨b1, o1, e5, yb1, q1⟩ := HA2.out.c.2 (p + j) hj16
      obtain ⟨b2, o2, e6, yb2, q2⟩ := HA2.out.l.2 (p + j) hj16
      dsimp only at e5 e6
      rw [e5] at p0
      rw [e6] at p1
      have q1' := HM.out.cell q1 (fun (e : b1 = y1) => by have := HX2.out _ yb1; omega)
      have q2' := HM.out.cell q2 (fun (e : b2 = y1) => by have := HX2.out _ yb2; omega)
      have hl0 : 0 ≤ l (p + j) := (HG.out.ok (p + j) hj16).2.1.1
      have HQ : Hid (c (p + j) = c (p + j)) := rfl
      clear q1 q2 yb1 yb2 e5 e6
      obtain ⟨t0, t1⟩ := get2 HD.out.rs
      have f0 := HD.out.rs.frozen 0
      have f1 := HD.out.rs.frozen 1
      have HB : Hid (Blw w wr) := HD.out.blw
      by_cases h1 : c (p + j) = o
      case neg =>
        have d1 : (c (p + j) != o) = true := by simp [h1]
        have HN : Hid (¬ freeOK ⟨16, c, 16, l⟩ o p k) := fun g => h1 (g.2.2.2 j (by have := HS.out; show j < bsz k; omega)).1
        clear h1 HO
        go_wp2
        exact bodyPost_ret (v := .tuple #[BV.zero.val BD.zero, .bool false]) (by simp [results, Try.results26, go_sem, t0, t1]) rfl (zero_gives (Or.inr ⟨HN.out, rfl, rfl⟩) HB.out)
      have d1 : (c (p + j) != o) = false := by simp [h1]
      by_cases h2 : l (p + j) = 0
      case neg =>
        have d2 : decide (l (p + j) > 0) = true := by simp; omega
        have HN : Hid (¬ freeOK ⟨16, c, 16, l⟩ o p k) := fun g => h2 (g.2.2.2 j (by have := HS.out; show j < bsz k; omega)).2
        clear h1 h2 HO hl0
        go_wp2
        exact bodyPost_ret (v := .tuple #[BV.zero.val BD.zero, .bool false]) (by simp [results, Try.results26, go_sem, t0, t1]) rfl (zero_gives (Or.inr ⟨HN.out, rfl, rfl⟩) HB.out)
      have d2 : decide (l (p + j) > 0) = false := by simp; omega
      have HN : Hid (allP c l o 0 p (j + 1)) := fun i hi => by
        by_cases e : i = j
        · subst e; exact ⟨h1, h2⟩
        · exact HO.out i (by omega)
      have HN2 : Hid (Freeing w (wr.setCell ⟨y1, p + j, none⟩ (.int .i64 0)) zb y1 y2 _ _ _ _ c l 0 p (j + 1)) := HD.out.step
      have HN3 : Hid (Mod (fun b => b = y1) w3 (wr.setCell ⟨y1, p + j, none⟩ (.int .i64 0))) := HM.out.trans (Mod.setCell (X := fun x => x = y1) _ (p := ⟨y1, p + j, none⟩) rfl _)
      obtain ⟨vv, gv⟩ : ∃ v, wr.cell? ⟨y1, p + j, none⟩ = some v := ⟨_, HD.out.r1.cell hj16⟩
      have gz := HD.out.r1.frozen (p + j)
      clear h1 h2 HO HD HM hl0 HB t0 t1 f0 f1
      generalize hpj : p + j = q at *
      go_wp2
      go_roundw
      case rel => exact ⟨j + 1, by omega, by subst hpj; go_num, HN.out, HN2.out, HN3.out⟩
      case measure => simp [intOf]; omega
    · obtain rfl : j = S := by omega
      have hlt' : ¬ ((p + j : Nat) : Int) < ((p + j : Nat) : Int) := by omega
      have hz := HD.out.lo
      have l1 := HD.out.r1.lt
      have l2 := HD.out.r2.lt
      have own : BookOwn (fun x => x = y1 ∨ x = y2) wr ⟨some ⟨y1, 0, none⟩, some ⟨y2, 0, none⟩, u3, u4⟩ ⟨16, fillF c p j 0, 16, l⟩ := rows_own rfl rfl (Or.inl rfl) (Or.inr rfl) HD.out.ne.1 HD.out.r1 HD.out.r2
      have hjk := HS.out
      have FIN : Hid _ := fin_gives (out := resO (freeOK ⟨16, c, 16, l⟩ o p k) (freed ⟨16, c, 16, l⟩ p k)) (w := w) (R := ⟨16, fillF c p j 0, 16, l⟩) (Or.inl ⟨⟨HG.out, H1.out, H4.out, by show allP c l o 0 p (bsz k); rw [← hjk]; exact HO.out⟩, by show _ = BD.mk 16 (fillF c p (bsz k) 0) 16 l; rw [← hjk], rfl⟩) (by show 16 + 16 ≤ _; omega) HD.out.blw own (fun x hx => by rcases hx with rfl | rfl <;> omega)
      obtain ⟨t0, t1⟩ := get2 HD.out.rs
      have f0 := HD.out.rs.frozen 0
      have f1 := HD.out.rs.frozen 1
      clear own hz l1 l2 HD hjk HS
      go_wp2
      exact bodyPost_ret (v := .tuple #[(BV.mk (some ⟨y1, 0, none⟩) (some ⟨y2, 0, none⟩) u3 u4).val ⟨16, fillF c p j 0, 16, l⟩, .bool true]) (by simp [results, Try.results26, go_sem, t0, t1]) rfl FIN.out
end Go.Proofs.Ytfmmpddknanhbaa
