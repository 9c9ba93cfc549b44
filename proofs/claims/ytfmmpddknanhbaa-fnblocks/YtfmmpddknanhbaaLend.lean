/- Pages that are lent and come back: the program's and the model's. -/
import Derived.Test.YtfmmpddknanhbaaImplG
import Derived.Test.YtfmmpddknanhbaaSpecO
namespace Go.Proofs.Ytfmmpddknanhbaa
open Go.RowKit
set_option linter.unusedSimpArgs false
set_option linter.unusedVariables false
def upd (f : Nat → Int) (i : Nat) (v : Int) : Nat → Int := fun t => if t = i then v else f t
/-- What answers owners and a bool: V where ok, nothing else. -/
def resO (ok : Prop) (V R : BD) (r : Bool) : Prop := (ok ∧ R = V ∧ r = true) ∨ (¬ ok ∧ R = BD.zero ∧ r = false)
theorem resO_same {ok : Prop} {V R R' : BD} {b c : Bool} (h : resO ok V R b) (k : resO ok V R' c) : R = R' ∧ b = c := by
  rcases h with ⟨g, rfl, rfl⟩ | ⟨g, rfl, rfl⟩
  · rcases k with ⟨_, rfl, rfl⟩ | ⟨g', _, _⟩
    · exact ⟨rfl, rfl⟩
    · exact absurd g g'
  · rcases k with ⟨g', _⟩ | ⟨_, rfl, rfl⟩
    · exact absurd g' g
    · exact ⟨rfl, rfl⟩
theorem zero_gives {out : BD → Bool → Prop} {w W : World} (ho : out BD.zero false) (hb : Blw w W) :
    GivesB out w (.returned (.tuple #[BV.zero.val BD.zero, .bool false])) ((W.setCell ⟨w.heap.size + 1, 0, none⟩ (.slice none 0 0)).setCell ⟨w.heap.size + 1, 1, none⟩ (.slice none 0 0)) :=
  ⟨BV.zero, BD.zero, false, rfl, ho, by decide, BookOwn.zero _ _, set2_blw hb (by omega) _ _⟩
theorem fin_gives {out : BD → Bool → Prop} {X : Nat → Prop} {w W : World} {b : BV} {R : BD} (ho : out R true) (hs : R.n + R.k ≤ 1048576) (hb : Blw w W) (own : BookOwn X W b R) (hX : ∀ x, X x → w.heap.size + 1 < x ∧ x < W.heap.size) :
    GivesB out w (.returned (.tuple #[b.val R, .bool true])) ((W.setCell ⟨w.heap.size + 1, 0, none⟩ (.slice b.a1 R.n b.c1)).setCell ⟨w.heap.size + 1, 1, none⟩ (.slice b.a2 R.k b.c2)) := by
  have hm := set2_mod (X := fun x => x = w.heap.size + 1) W rfl (.slice b.a1 R.n b.c1) (.slice b.a2 R.k b.c2)
  have := hm.size
  exact ⟨b, R, true, rfl, ho, hs, (own.mod hm (fun x hx e => by have := hX x hx; omega)).mono (fun x hx => by have := hX x hx; omega), set2_blw hb (by omega) _ _⟩
theorem pl_nat {x : Int} (h : plOK x) : ∃ p : Nat, x = p ∧ p < 16 := ⟨x.toNat, by unfold plOK at h; omega, by unfold plOK at h; omega⟩
theorem set_lent {w : World} {z : Nat} {f g : Nat → Int} (r : Row w z (16 * 2) (uc f g)) (p : Nat) (x : Int) : Row (w.setCell ⟨z, p * 2 + 1, none⟩ (.int .i64 x)) z (16 * 2) (uc f (upd g p x)) := by
  refine (r.set (p * 2 + 1) _).congr (fun t ht => ?_)
  by_cases e1 : t = p * 2 + 1
  · subst e1
    rw [if_pos rfl, (uc_at _ _ p).2]; simp [upd]
  · rw [if_neg e1]
    rcases (show t % 2 = 0 ∨ t % 2 = 1 by omega) with h2 | h2
    · simp [uc, h2]
    · have e2 : t / 2 ≠ p := by omega
      simp [uc, h2, upd, e2]
def lendOK (B : BD) (o p t : Int) : Prop := B.Good ∧ whoOK o ∧ plOK p ∧ whoOK t ∧ ¬ t = o ∧ B.c p.toNat = o ∧ B.l p.toNat = 0
def backOK (B : BD) (o p : Int) : Prop := B.Good ∧ whoOK o ∧ plOK p ∧ B.c p.toNat = o ∧ ¬ B.l p.toNat = 0
abbrev lentTo (B : BD) (p t : Int) : BD := ⟨16, B.c, 16, upd B.l p.toNat t⟩
set_option maxRecDepth 10000 in
set_option maxHeartbeats 3200000 in
theorem implLend_any (b : BV) (B : BD) (o p t : Int) (Y : Nat → Prop) (w : World) (h : BookAt Y w b B) (hY : ∀ x, Y x → x < w.heap.size) :
    Calls Try.prog 28 #[b.val B, .int .i64 o, .int .i64 p, .int .i64 t] w (GivesB (resO (lendOK B o p t) (lentTo B p t)) w) := by
  have hb0 : Blw w ((w.alloc (.cells #[.slice b.a1 B.n b.c1, .slice b.a2 B.k b.c2] 25)).alloc (.cells #[.slice none 0 0, .slice none 0 0] 25)) := ((Blw.refl _).alloc _).alloc _
  have r1 := box2 (w.alloc (.cells #[.slice b.a1 B.n b.c1, .slice b.a2 B.k b.c2] 25)) (.slice none 0 0) (.slice none 0 0) 25
  rw [World.size_alloc] at r1
  have HA : Hid (BookAt Y ((w.alloc (.cells #[.slice b.a1 B.n b.c1, .slice b.a2 B.k b.c2] 25)).alloc (.cells #[.slice none 0 0, .slice none 0 0] 25)) b B) := h.blw hb0
  have hz : ((w.alloc (.cells #[.slice b.a1 B.n b.c1, .slice b.a2 B.k b.c2] 25)).alloc (.cells #[.slice none 0 0, .slice none 0 0] 25)).heap.size = w.heap.size + 1 + 1 := by simp
  clear h
  go_enter Try.func28, Try.ntmps28
  go_wp2_with fail
  refine (hold_any b B Y _ HA.out (fun x hx => by have := hY x hx; simp; omega)).mono ?_
  rintro e w1 ⟨h1, hb1⟩
  replace r1 := r1.blw hb1
  have HB : Hid (Blw w w1) := hb0.trans hb1
  have HR1 : Hid (Row w1 (w.heap.size + 1) 2 (fun i => if i = 0 then .slice none 0 0 else .slice none 0 0)) := r1
  obtain ⟨t0, t1⟩ := get2 r1
  have f0 := r1.frozen 0
  have f1 := r1.frozen 1
  clear hb0 HA r1 hb1
  rcases h1 with ⟨z, hg, rfl, hrow, hlo⟩ | ⟨hg, rfl⟩
  case inr =>
    have HG : Hid (¬ B.Good) := hg
    clear hg
    go_wp2
    exact bodyPost_ret (v := .tuple #[BV.zero.val BD.zero, .bool false]) (by simp [results, Try.results28, go_sem, t0, t1]) rfl (zero_gives (Or.inr ⟨fun g => HG.out g.1, rfl, rfl⟩) HB.out)
  rw [hz] at hlo
  have HG : Hid B.Good := hg
  have HRW : Hid (Row w1 z (16 * 2) (uc B.c B.l)) := hrow
  clear hg hrow hz
  go_wp2_with fail
  refine (isOwner_any o _).mono ?_
  rintro e w1 ⟨r, rfl, hr, rfl⟩
  have HT : Hid (r = true ↔ whoOK o) := hr
  clear hr
  cases r
  · have HN : Hid (¬ whoOK o) := fun g => by have := HT.out.2 g; simp at this
    clear HT
    go_wp2
    exact bodyPost_ret (v := .tuple #[BV.zero.val BD.zero, .bool false]) (by simp [results, Try.results28, go_sem, t0, t1]) rfl (zero_gives (Or.inr ⟨fun g => HN.out g.2.1, rfl, rfl⟩) HB.out)
  have H1 : Hid (whoOK o) := HT.out.1 (by first | rfl | trivial)
  clear HT
  go_wp2_with fail
  refine (isPage_any p _).mono ?_
  rintro e w1 ⟨r, rfl, hr, rfl⟩
  have HT : Hid (r = true ↔ plOK p) := hr
  clear hr
  cases r
  · have HN : Hid (¬ plOK p) := fun g => by have := HT.out.2 g; simp at this
    clear HT
    go_wp2
    exact bodyPost_ret (v := .tuple #[BV.zero.val BD.zero, .bool false]) (by simp [results, Try.results28, go_sem, t0, t1]) rfl (zero_gives (Or.inr ⟨fun g => HN.out g.2.2.1, rfl, rfl⟩) HB.out)
  have H2 : Hid (plOK p) := HT.out.1 (by first | rfl | trivial)
  clear HT
  go_wp2_with fail
  refine (isOwner_any t _).mono ?_
  rintro e w1 ⟨r, rfl, hr, rfl⟩
  have HT : Hid (r = true ↔ whoOK t) := hr
  clear hr
  cases r
  · have HN : Hid (¬ whoOK t) := fun g => by have := HT.out.2 g; simp at this
    clear HT
    go_wp2
    exact bodyPost_ret (v := .tuple #[BV.zero.val BD.zero, .bool false]) (by simp [results, Try.results28, go_sem, t0, t1]) rfl (zero_gives (Or.inr ⟨fun g => HN.out g.2.2.2.1, rfl, rfl⟩) HB.out)
  have H3 : Hid (whoOK t) := HT.out.1 (by first | rfl | trivial)
  clear HT
  by_cases hto : t = o
  · have d1 : (t == o) = true := by simp [hto]
    have HN : Hid (t = o) := hto
    clear hto
    go_wp2
    exact bodyPost_ret (v := .tuple #[BV.zero.val BD.zero, .bool false]) (by simp [results, Try.results28, go_sem, t0, t1]) rfl (zero_gives (Or.inr ⟨fun g => g.2.2.2.2.1 HN.out, rfl, rfl⟩) HB.out)
  have d1 : (t == o) = false := by simp [hto]
  have H4 : Hid (¬ t = o) := hto
  clear hto
  obtain ⟨q, hq, hq16⟩ := pl_nat H2.out
  subst hq
  have hlt' : (q : Int) < 16 := by omega
  obtain ⟨q0, q1⟩ := undo_get HRW.out hq16
  have e1 : B.c ((q : Int)).toNat = B.c q := by rw [Int.toNat_natCast]
  have e2 : B.l ((q : Int)).toNat = B.l q := by rw [Int.toNat_natCast]
  by_cases hc : B.c q = o
  case neg =>
    have HN : Hid (¬ lendOK B o q t) := fun g => hc (e1 ▸ g.2.2.2.2.2.1)
    have d2 : (B.c q == o) = false := by simp [hc]
    clear hc e1 e2
    go_wp2
    exact bodyPost_ret (v := .tuple #[BV.zero.val BD.zero, .bool false]) (by simp [results, Try.results28, go_sem, t0, t1]) rfl (zero_gives (Or.inr ⟨HN.out, rfl, rfl⟩) HB.out)
  by_cases hl : B.l q = 0
  case neg =>
    have HN : Hid (¬ lendOK B o q t) := fun g => hl (e2 ▸ g.2.2.2.2.2.2)
    have d2 : (B.c q == o) = true := by simp [hc]
    have d3 : (B.l q == 0) = false := by simp [hl]
    clear hl hc e1 e2
    go_wp2
    exact bodyPost_ret (v := .tuple #[BV.zero.val BD.zero, .bool false]) (by simp [results, Try.results28, go_sem, t0, t1]) rfl (zero_gives (Or.inr ⟨HN.out, rfl, rfl⟩) HB.out)
  have OK : Hid (lendOK B o q t) := ⟨HG.out, H1.out, H2.out, H3.out, H4.out, by rw [e1]; exact hc, by rw [e2]; exact hl⟩
  rw [hc] at q0
  rw [hl] at q1
  have fz := HRW.out.frozen (q * 2 + 1)
  have nr := set_lent HRW.out q t
  have nm : Mod (fun x => x = z) w1 (w1.setCell ⟨z, q * 2 + 1, none⟩ (.int .i64 t)) := Mod.setCell (X := fun x => x = z) _ (p := ⟨z, q * 2 + 1, none⟩) rfl _
  have nb : Blw w (w1.setCell ⟨z, q * 2 + 1, none⟩ (.int .i64 t)) := Mod.blw HB.out nm (fun i hi => by omega)
  have rr := HR1.out.mod nm (by omega)
  have hsz := nm.size
  have HNR : Hid (Row (w1.setCell ⟨z, q * 2 + 1, none⟩ (.int .i64 t)) z (16 * 2) (uc B.c (upd B.l q t))) := nr
  have HNB : Hid (Blw w (w1.setCell ⟨z, q * 2 + 1, none⟩ (.int .i64 t))) := nb
  have HRR : Hid (Row (w1.setCell ⟨z, q * 2 + 1, none⟩ (.int .i64 t)) (w.heap.size + 1) 2 (fun i => if i = 0 then .slice none 0 0 else .slice none 0 0)) := rr
  have hzl := HR1.out.lt
  clear nr nm nb rr hc hl e1 e2 HRW H1 H2 H3 H4 HG HR1 t0 t1 f0 f1 HB
  go_wp2_with fail
  clear q0 q1 fz
  refine (giveOut_any z B.c (upd B.l q t) _ HNR.out).mono ?_
  rintro e w3 ⟨b', rfl, own, hb3⟩
  have r3 := HRR.out.blw hb3
  obtain ⟨t0, t1⟩ := get2 r3
  have f0 := r3.frozen 0
  have f1 := r3.frozen 1
  have FIN : Hid _ := fin_gives (out := resO (lendOK B o q t) (lentTo B q t)) (w := w) (R := ⟨16, B.c, 16, upd B.l q t⟩) (Or.inl ⟨OK.out, rfl, rfl⟩) (by show 16 + 16 ≤ _; omega) (HNB.out.trans hb3) own (fun x hx => ⟨by omega, hx.2⟩)
  clear own hb3 r3 HNR HNB HRR
  go_wp2
  exact bodyPost_ret (v := .tuple #[b'.val ⟨16, B.c, 16, upd B.l q t⟩, .bool true]) (by simp [results, Try.results28, go_sem, t0, t1]) rfl FIN.out
set_option maxRecDepth 10000 in
set_option maxHeartbeats 3200000 in
theorem implBack_any (b : BV) (B : BD) (o p : Int) (Y : Nat → Prop) (w : World) (h : BookAt Y w b B) (hY : ∀ x, Y x → x < w.heap.size) :
    Calls Try.prog 31 #[b.val B, .int .i64 o, .int .i64 p] w (GivesB (resO (backOK B o p) (lentTo B p 0)) w) := by
  have hb0 : Blw w ((w.alloc (.cells #[.slice b.a1 B.n b.c1, .slice b.a2 B.k b.c2] 25)).alloc (.cells #[.slice none 0 0, .slice none 0 0] 25)) := ((Blw.refl _).alloc _).alloc _
  have r1 := box2 (w.alloc (.cells #[.slice b.a1 B.n b.c1, .slice b.a2 B.k b.c2] 25)) (.slice none 0 0) (.slice none 0 0) 25
  rw [World.size_alloc] at r1
  have HA : Hid (BookAt Y ((w.alloc (.cells #[.slice b.a1 B.n b.c1, .slice b.a2 B.k b.c2] 25)).alloc (.cells #[.slice none 0 0, .slice none 0 0] 25)) b B) := h.blw hb0
  have hz : ((w.alloc (.cells #[.slice b.a1 B.n b.c1, .slice b.a2 B.k b.c2] 25)).alloc (.cells #[.slice none 0 0, .slice none 0 0] 25)).heap.size = w.heap.size + 1 + 1 := by simp
  clear h
  go_enter Try.func31, Try.ntmps31
  go_wp2_with fail
  refine (hold_any b B Y _ HA.out (fun x hx => by have := hY x hx; simp; omega)).mono ?_
  rintro e w1 ⟨h1, hb1⟩
  replace r1 := r1.blw hb1
  have HB : Hid (Blw w w1) := hb0.trans hb1
  have HR1 : Hid (Row w1 (w.heap.size + 1) 2 (fun i => if i = 0 then .slice none 0 0 else .slice none 0 0)) := r1
  obtain ⟨t0, t1⟩ := get2 r1
  have f0 := r1.frozen 0
  have f1 := r1.frozen 1
  clear hb0 HA r1 hb1
  rcases h1 with ⟨z, hg, rfl, hrow, hlo⟩ | ⟨hg, rfl⟩
  case inr =>
    have HG : Hid (¬ B.Good) := hg
    clear hg
    go_wp2
    exact bodyPost_ret (v := .tuple #[BV.zero.val BD.zero, .bool false]) (by simp [results, Try.results31, go_sem, t0, t1]) rfl (zero_gives (Or.inr ⟨fun g => HG.out g.1, rfl, rfl⟩) HB.out)
  rw [hz] at hlo
  have HG : Hid B.Good := hg
  have HRW : Hid (Row w1 z (16 * 2) (uc B.c B.l)) := hrow
  clear hg hrow hz
  go_wp2_with fail
  refine (isOwner_any o _).mono ?_
  rintro e w1 ⟨r, rfl, hr, rfl⟩
  have HT : Hid (r = true ↔ whoOK o) := hr
  clear hr
  cases r
  · have HN : Hid (¬ whoOK o) := fun g => by have := HT.out.2 g; simp at this
    clear HT
    go_wp2
    exact bodyPost_ret (v := .tuple #[BV.zero.val BD.zero, .bool false]) (by simp [results, Try.results31, go_sem, t0, t1]) rfl (zero_gives (Or.inr ⟨fun g => HN.out g.2.1, rfl, rfl⟩) HB.out)
  have H1 : Hid (whoOK o) := HT.out.1 (by first | rfl | trivial)
  clear HT
  go_wp2_with fail
  refine (isPage_any p _).mono ?_
  rintro e w1 ⟨r, rfl, hr, rfl⟩
  have HT : Hid (r = true ↔ plOK p) := hr
  clear hr
  cases r
  · have HN : Hid (¬ plOK p) := fun g => by have := HT.out.2 g; simp at this
    clear HT
    go_wp2
    exact bodyPost_ret (v := .tuple #[BV.zero.val BD.zero, .bool false]) (by simp [results, Try.results31, go_sem, t0, t1]) rfl (zero_gives (Or.inr ⟨fun g => HN.out g.2.2.1, rfl, rfl⟩) HB.out)
  have H2 : Hid (plOK p) := HT.out.1 (by first | rfl | trivial)
  clear HT
  obtain ⟨q, hq, hq16⟩ := pl_nat H2.out
  subst hq
  have hlt' : (q : Int) < 16 := by omega
  obtain ⟨q0, q1⟩ := undo_get HRW.out hq16
  have e1 : B.c ((q : Int)).toNat = B.c q := by rw [Int.toNat_natCast]
  have e2 : B.l ((q : Int)).toNat = B.l q := by rw [Int.toNat_natCast]
  by_cases hc : B.c q = o
  case neg =>
    have HN : Hid (¬ backOK B o q) := fun g => hc (e1 ▸ g.2.2.2.1)
    have d2 : (B.c q != o) = true := by simp [hc]
    clear hc e1 e2
    go_wp2
    exact bodyPost_ret (v := .tuple #[BV.zero.val BD.zero, .bool false]) (by simp [results, Try.results31, go_sem, t0, t1]) rfl (zero_gives (Or.inr ⟨HN.out, rfl, rfl⟩) HB.out)
  have d2 : (B.c q != o) = false := by simp [hc]
  by_cases hl : B.l q = 0
  · have HN : Hid (¬ backOK B o q) := fun g => g.2.2.2.2 (by rw [e2]; exact hl)
    have d3 : (B.l q == 0) = true := by simp [hl]
    clear hl hc e1 e2
    go_wp2
    exact bodyPost_ret (v := .tuple #[BV.zero.val BD.zero, .bool false]) (by simp [results, Try.results31, go_sem, t0, t1]) rfl (zero_gives (Or.inr ⟨HN.out, rfl, rfl⟩) HB.out)
  have d3 : (B.l q == 0) = false := by simp [hl]
  have OK : Hid (backOK B o q) := ⟨HG.out, H1.out, H2.out, by rw [e1]; exact hc, by rw [e2]; exact hl⟩
  have fz := HRW.out.frozen (q * 2 + 1)
  have nr := set_lent HRW.out q 0
  have nm : Mod (fun x => x = z) w1 (w1.setCell ⟨z, q * 2 + 1, none⟩ (.int .i64 0)) := Mod.setCell (X := fun x => x = z) _ (p := ⟨z, q * 2 + 1, none⟩) rfl _
  have nb : Blw w (w1.setCell ⟨z, q * 2 + 1, none⟩ (.int .i64 0)) := Mod.blw HB.out nm (fun i hi => by omega)
  have rr := HR1.out.mod nm (by omega)
  have hsz := nm.size
  have HNR : Hid (Row (w1.setCell ⟨z, q * 2 + 1, none⟩ (.int .i64 0)) z (16 * 2) (uc B.c (upd B.l q 0))) := nr
  have HNB : Hid (Blw w (w1.setCell ⟨z, q * 2 + 1, none⟩ (.int .i64 0))) := nb
  have HRR : Hid (Row (w1.setCell ⟨z, q * 2 + 1, none⟩ (.int .i64 0)) (w.heap.size + 1) 2 (fun i => if i = 0 then .slice none 0 0 else .slice none 0 0)) := rr
  have hzl := HR1.out.lt
  clear nr nm nb rr hc hl e1 e2 HRW H1 H2 HG HR1 t0 t1 f0 f1 HB
  go_wp2_with fail
  clear q0 q1 fz
  refine (giveOut_any z B.c (upd B.l q 0) _ HNR.out).mono ?_
  rintro e w3 ⟨b', rfl, own, hb3⟩
  have r3 := HRR.out.blw hb3
  obtain ⟨t0, t1⟩ := get2 r3
  have f0 := r3.frozen 0
  have f1 := r3.frozen 1
  have FIN : Hid _ := fin_gives (out := resO (backOK B o q) (lentTo B q 0)) (w := w) (R := ⟨16, B.c, 16, upd B.l q 0⟩) (Or.inl ⟨OK.out, rfl, rfl⟩) (by show 16 + 16 ≤ _; omega) (HNB.out.trans hb3) own (fun x hx => ⟨by omega, hx.2⟩)
  clear own hb3 r3 HNR HNB HRR
  go_wp2
  exact bodyPost_ret (v := .tuple #[b'.val ⟨16, B.c, 16, upd B.l q 0⟩, .bool true]) (by simp [results, Try.results31, go_sem, t0, t1]) rfl FIN.out
end Go.Proofs.Ytfmmpddknanhbaa
