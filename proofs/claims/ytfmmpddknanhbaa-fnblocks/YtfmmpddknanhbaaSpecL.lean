/- The model's pages that are lent and come back. -/
import Derived.Test.YtfmmpddknanhbaaLend
namespace Go.Proofs.Ytfmmpddknanhbaa
open Go.RowKit
set_option linter.unusedSimpArgs false
set_option linter.unusedVariables false
def pgOK (B : BD) (o p : Int) : Prop := B.Good ∧ whoOK o ∧ plOK p ∧ B.c p.toNat = o
set_option maxRecDepth 10000 in
set_option maxHeartbeats 1600000 in
theorem l5Page_any (b : BV) (B : BD) (o p : Int) (Y : Nat → Prop) (w : World) (h : BookAt Y w b B) :
    Calls Try.prog 72 #[b.val B, .int .i64 o, .int .i64 p] w fun e w' => ∃ r, e = .returned (.bool r) ∧ (r = true ↔ pgOK B o p) ∧ Blw w w' := by
  have hb0 : Blw w (w.alloc (.cells #[.slice b.a1 B.n b.c1, .slice b.a2 B.k b.c2] 25)) := (Blw.refl _).alloc _
  have r0 := box2 w (.slice b.a1 B.n b.c1) (.slice b.a2 B.k b.c2) 25
  have HA : Hid (BookAt Y (w.alloc (.cells #[.slice b.a1 B.n b.c1, .slice b.a2 B.k b.c2] 25)) b B) := h.blw hb0
  clear h
  go_enter Try.func72, Try.ntmps72
  go_wp2_with fail
  refine (specGood_any b B Y _ HA.out).mono ?_
  rintro e w1 ⟨r, rfl, hr, hb1⟩
  have HT : Hid (r = true ↔ B.Good) := hr
  have HB : Hid (Blw w w1) := hb0.trans hb1
  replace r0 := r0.blw hb1
  replace HA : Hid (BookAt Y w1 b B) := HA.out.blw hb1
  clear hr hb0 hb1
  cases r
  · have HN : Hid (¬ B.Good) := fun g => by have := HT.out.2 g; simp at this
    go_wp2
    go_ret
    exact ⟨false, rfl, iff_f (fun g => HN.out g.1), HB.out⟩
  have HG : Hid (B.Good) := HT.out.1 (by first | rfl | trivial)
  clear HT
  go_wp2_with fail
  refine (l5Who_any o _).mono ?_
  rintro e w1 ⟨r, rfl, hr, rfl⟩
  have HT : Hid (r = true ↔ whoOK o) := hr
  clear hr
  cases r
  · have HN : Hid (¬ whoOK o) := fun g => by have := HT.out.2 g; simp at this
    clear HT
    go_wp2
    go_ret
    exact ⟨false, rfl, iff_f (fun g => HN.out g.2.1), HB.out⟩
  have H1 : Hid (whoOK o) := HT.out.1 (by first | rfl | trivial)
  clear HT
  go_wp2_with fail
  refine (l1In_any p 0 15 _).mono ?_
  rintro e w1 ⟨r, rfl, hr, rfl⟩
  have HT : Hid (r = true ↔ (0 ≤ p ∧ p ≤ 15)) := hr
  clear hr
  cases r
  · have HN : Hid (¬ (0 ≤ p ∧ p ≤ 15)) := fun g => by have := HT.out.2 g; simp at this
    clear HT
    go_wp2
    go_ret
    exact ⟨false, rfl, iff_f (fun g => HN.out g.2.2.1), HB.out⟩
  have H2 : Hid (plOK p) := HT.out.1 (by first | rfl | trivial)
  clear HT
  obtain ⟨q, hq, hq16⟩ := pl_nat H2.out
  subst hq
  have hlt' : (q : Int) < 16 := by omega
  obtain ⟨bb, oo, ea, -, gq⟩ := HA.out.c.2 q (by rw [HG.out.n]; exact hq16)
  obtain ⟨p0, p1⟩ := get2 r0
  rw [ea, HG.out.n] at p0
  have e1 : B.c ((q : Int)).toNat = B.c q := by rw [Int.toNat_natCast]
  clear r0 HA ea
  by_cases hc : B.c q = o
  · have OK : Hid (pgOK B o q) := ⟨HG.out, H1.out, H2.out, by rw [e1]; exact hc⟩
    have d1 : (B.c q == o) = true := by simp [hc]
    clear hc e1
    go_wp2
    go_ret
    exact ⟨true, rfl, iff_t OK.out, HB.out⟩
  · have HN : Hid (¬ pgOK B o q) := fun g => hc (by rw [← e1]; exact g.2.2.2)
    have d1 : (B.c q == o) = false := by simp [hc]
    clear hc e1
    go_wp2
    go_ret
    exact ⟨false, rfl, iff_f HN.out, HB.out⟩
theorem own16 {X : Nat → Prop} {w : World} {b : BV} {c l : Nat → Int} (h : BookOwn X w b ⟨16, c, 16, l⟩) : ∃ y, b.a2 = some ⟨y, 0, none⟩ := by
  obtain ⟨X1, X2, d1, d2, hc, hl⟩ := h.ex
  obtain ⟨y, hy, ea, r⟩ := hl.2 (by show 0 < 16; omega)
  exact ⟨y, ea⟩
theorem book_lent {X : Nat → Prop} {w : World} {b : BV} {c l : Nat → Int} (h : BookOwn X w b ⟨16, c, 16, l⟩) (p : Nat) (x : Int) (hX : ∀ x, X x → x < w.heap.size) :
    ∃ y, b.a2 = some ⟨y, 0, none⟩ ∧ X y ∧ (p < 16 → w.cell? ⟨y, p, none⟩ = some (.int .i64 (l p))) ∧ w.frozen? ⟨y, p, none⟩ = false ∧ BookOwn X (w.setCell ⟨y, p, none⟩ (.int .i64 x)) b ⟨16, c, 16, upd l p x⟩ := by
  obtain ⟨X1, X2, d1, d2, hc, hl⟩ := h.ex
  obtain ⟨y, hy, ea, r⟩ := hl.2 (by show 0 < 16; omega)
  have nm : Mod (fun z => z = y) w (w.setCell ⟨y, p, none⟩ (.int .i64 x)) := Mod.setCell (X := fun z => z = y) _ (p := ⟨y, p, none⟩) rfl _
  refine ⟨y, ea, d2 y hy, fun hp => r.cell hp, r.frozen p, X1, X2, d1, d2, hc.mod nm (fun z hz e => by subst e; exact (d1 z hz).2 hy), ⟨by show 16 ≤ _; omega, fun _ => ⟨y, hy, ea, (r.set p _).congr (fun i hi => ?_)⟩⟩⟩
  by_cases e : i = p
  · subst e; simp [upd]
  · simp [e, upd]
set_option maxRecDepth 10000 in
set_option maxHeartbeats 3200000 in
theorem specLend_any (b : BV) (B : BD) (o p t : Int) (Y : Nat → Prop) (w : World) (h : BookAt Y w b B) :
    Calls Try.prog 29 #[b.val B, .int .i64 o, .int .i64 p, .int .i64 t] w (GivesB (resO (lendOK B o p t) (lentTo B p t)) w) := by
  have hb0 : Blw w ((w.alloc (.cells #[.slice b.a1 B.n b.c1, .slice b.a2 B.k b.c2] 25)).alloc (.cells #[.slice none 0 0, .slice none 0 0] 25)) := ((Blw.refl _).alloc _).alloc _
  have r0 := (box2 w (.slice b.a1 B.n b.c1) (.slice b.a2 B.k b.c2) 25).blw ((Blw.refl _).alloc (.cells #[.slice none 0 0, .slice none 0 0] 25))
  have r1 := box2 (w.alloc (.cells #[.slice b.a1 B.n b.c1, .slice b.a2 B.k b.c2] 25)) (.slice none 0 0) (.slice none 0 0) 25
  rw [World.size_alloc] at r1
  have HA : Hid (BookAt Y ((w.alloc (.cells #[.slice b.a1 B.n b.c1, .slice b.a2 B.k b.c2] 25)).alloc (.cells #[.slice none 0 0, .slice none 0 0] 25)) b B) := h.blw hb0
  clear h
  go_enter Try.func29, Try.ntmps29
  go_wp2_with fail
  refine (l5Page_any b B o p Y _ HA.out).mono ?_
  rintro e w1 ⟨r, rfl, hr, hb1⟩
  have HT : Hid (r = true ↔ pgOK B o p) := hr
  have HB : Hid (Blw w w1) := hb0.trans hb1
  have HR0 : Hid (Row w1 w.heap.size 2 (fun i => if i = 0 then .slice b.a1 B.n b.c1 else .slice b.a2 B.k b.c2)) := r0.blw hb1
  have HR1 : Hid (Row w1 (w.heap.size + 1) 2 (fun i => if i = 0 then .slice none 0 0 else .slice none 0 0)) := r1.blw hb1
  replace HA : Hid (BookAt Y w1 b B) := HA.out.blw hb1
  obtain ⟨t0, t1⟩ := get2 HR1.out
  have f0 := HR1.out.frozen 0
  have f1 := HR1.out.frozen 1
  clear hr hb0 hb1 r0 r1
  cases r
  · have HN : Hid (¬ pgOK B o p) := fun g => by have := HT.out.2 g; simp at this
    clear HT
    go_wp2
    exact bodyPost_ret (v := .tuple #[BV.zero.val BD.zero, .bool false]) (by simp [results, Try.results29, go_sem, t0, t1]) rfl (zero_gives (Or.inr ⟨fun g => HN.out ⟨g.1, g.2.1, g.2.2.1, g.2.2.2.2.2.1⟩, rfl, rfl⟩) HB.out)
  have HP : Hid (pgOK B o p) := HT.out.1 (by first | rfl | trivial)
  clear HT
  obtain ⟨q, hq, hq16⟩ := pl_nat HP.out.2.2.1
  subst hq
  have hlt' : (q : Int) < 16 := by omega
  obtain ⟨n, c, k, l⟩ := B
  obtain ⟨a1, a2, c1, c2⟩ := b
  have hn16 : n = 16 := HP.out.1.n
  have hk16 : k = 16 := HP.out.1.k
  subst hn16 hk16
  simp only [BV.val] at *
  have G : Hid (BD.Good ⟨16, c, 16, l⟩) := HP.out.1
  obtain ⟨bb, oo, rfl, -, gq⟩ := HA.out.l.2 q hq16
  obtain ⟨p0, p1⟩ := get2 HR0.out
  have e2 : l ((q : Int)).toNat = l q := by rw [Int.toNat_natCast]
  have hpos : 0 ≤ l q ∧ l q ≤ 6 := (G.out.ok q hq16).2.1
  by_cases hl : l q = 0
  case neg =>
    have d1 : decide (l q > 0) = true := by simp; omega
    have HN : Hid (¬ lendOK ⟨16, c, 16, l⟩ o q t) := fun g => hl (e2.symm.trans g.2.2.2.2.2.2)
    clear hl e2
    go_wp2
    exact bodyPost_ret (v := .tuple #[BV.zero.val BD.zero, .bool false]) (by simp [results, Try.results29, go_sem, t0, t1]) rfl (zero_gives (Or.inr ⟨HN.out, rfl, rfl⟩) HB.out)
  have d1 : decide (l q > 0) = false := by simp; omega
  go_wp2_with fail
  refine (l5Who_any t _).mono ?_
  rintro e w1 ⟨r, rfl, hr, rfl⟩
  have HT : Hid (r = true ↔ whoOK t) := hr
  clear hr
  cases r
  · have HN : Hid (¬ whoOK t) := fun g => by have := HT.out.2 g; simp at this
    clear HT
    go_wp2
    exact bodyPost_ret (v := .tuple #[BV.zero.val BD.zero, .bool false]) (by simp [results, Try.results29, go_sem, t0, t1]) rfl (zero_gives (Or.inr ⟨fun g => HN.out g.2.2.2.1, rfl, rfl⟩) HB.out)
  have H3 : Hid (whoOK t) := HT.out.1 (by first | rfl | trivial)
  clear HT
  by_cases hto : t = o
  · have d2 : (t == o) = true := by simp [hto]
    have HN : Hid (t = o) := hto
    clear hto
    go_wp2
    exact bodyPost_ret (v := .tuple #[BV.zero.val BD.zero, .bool false]) (by simp [results, Try.results29, go_sem, t0, t1]) rfl (zero_gives (Or.inr ⟨fun g => g.2.2.2.2.1 HN.out, rfl, rfl⟩) HB.out)
  have d2 : (t == o) = false := by simp [hto]
  have OK : Hid (lendOK ⟨16, c, 16, l⟩ o q t) := ⟨HP.out.1, HP.out.2.1, HP.out.2.2.1, H3.out, hto, HP.out.2.2.2, e2.trans hl⟩
  have HZ : Hid (w.heap.size + 1 < w1.heap.size) := HR1.out.lt
  clear hpos e2 HP hl hto H3
  go_wp2_with fail
  clear p0 p1 gq t0 t1 f0 f1
  refine (l5Own_any ⟨a1, some ⟨bb, oo, none⟩, c1, c2⟩ ⟨16, c, 16, l⟩ Y _ (by show 16 + 16 ≤ _; omega) HA.out).mono ?_
  rintro e w2 ⟨⟨u1, u2, u3, u4⟩, rfl, own, hb2⟩
  obtain ⟨y, ey⟩ := own16 own
  dsimp only at ey
  subst ey
  simp only [BV.val]
  have hA : Blw w2 (w2.alloc (.cells #[.slice u1 16 u3, .slice (some ⟨y, 0, none⟩) 16 u4] 25)) := (Blw.refl _).alloc _
  have own2 := own.blw hA
  have r2 := box2 w2 (.slice u1 16 u3) (.slice (some ⟨y, 0, none⟩) 16 u4) 25
  have r1 := (HR1.out.blw hb2).blw hA
  have hbw := (HB.out.trans hb2).trans hA
  have hs2 := hb2.size
  have hz := HZ.out
  obtain ⟨y', ey, hy, gc, gf, own3⟩ := book_lent own2 q (t) (fun x hx => by simp; omega)
  cases ey
  replace gc := gc hq16
  obtain ⟨s0, s1⟩ := get2 r2
  have nm : Mod (fun x => x = y) (w2.alloc (.cells #[.slice u1 16 u3, .slice (some ⟨y, 0, none⟩) 16 u4] 25)) ((w2.alloc (.cells #[.slice u1 16 u3, .slice (some ⟨y, 0, none⟩) 16 u4] 25)).setCell ⟨y, q, none⟩ (.int .i64 (t))) := Mod.setCell (X := fun x => x = y) _ (p := ⟨y, q, none⟩) rfl _
  have r2' := r2.mod nm (by omega)
  have r1' := r1.mod nm (by omega)
  have hbw' : Blw w _ := Mod.blw hbw nm (fun i hi => by omega)
  have hsz := nm.size
  rw [World.size_alloc] at hsz
  have FIN : Hid _ := fin_gives (out := resO (lendOK ⟨16, c, 16, l⟩ o q t) (lentTo ⟨16, c, 16, l⟩ q t)) (w := w) (R := ⟨16, c, 16, upd l q (t)⟩) (Or.inl ⟨OK.out, rfl, rfl⟩) (by show 16 + 16 ≤ _; omega) hbw' own3 (fun x hx => ⟨by omega, by omega⟩)
  obtain ⟨v0, v1⟩ := get2 r2'
  obtain ⟨t0, t1⟩ := get2 r1'
  have f0 := r1'.frozen 0
  have f1 := r1'.frozen 1
  clear own own2 own3 r2 r1 r2' r1' hbw hbw' nm hA hb2 HR0 HR1 HA HB HZ OK G hs2 hz hsz hy
  go_wp2
  exact bodyPost_ret (v := .tuple #[(BV.mk u1 (some ⟨y, 0, none⟩) u3 u4).val ⟨16, c, 16, upd l q (t)⟩, .bool true]) (by simp [results, Try.results29, go_sem, t0, t1]) rfl FIN.out
set_option maxRecDepth 10000 in
set_option maxHeartbeats 3200000 in
theorem specBack_any (b : BV) (B : BD) (o p : Int) (Y : Nat → Prop) (w : World) (h : BookAt Y w b B) :
    Calls Try.prog 38 #[b.val B, .int .i64 o, .int .i64 p] w (GivesB (resO (backOK B o p) (lentTo B p 0)) w) := by
  have hb0 : Blw w ((w.alloc (.cells #[.slice b.a1 B.n b.c1, .slice b.a2 B.k b.c2] 25)).alloc (.cells #[.slice none 0 0, .slice none 0 0] 25)) := ((Blw.refl _).alloc _).alloc _
  have r0 := (box2 w (.slice b.a1 B.n b.c1) (.slice b.a2 B.k b.c2) 25).blw ((Blw.refl _).alloc (.cells #[.slice none 0 0, .slice none 0 0] 25))
  have r1 := box2 (w.alloc (.cells #[.slice b.a1 B.n b.c1, .slice b.a2 B.k b.c2] 25)) (.slice none 0 0) (.slice none 0 0) 25
  rw [World.size_alloc] at r1
  have HA : Hid (BookAt Y ((w.alloc (.cells #[.slice b.a1 B.n b.c1, .slice b.a2 B.k b.c2] 25)).alloc (.cells #[.slice none 0 0, .slice none 0 0] 25)) b B) := h.blw hb0
  clear h
  go_enter Try.func38, Try.ntmps38
  go_wp2_with fail
  refine (l5Page_any b B o p Y _ HA.out).mono ?_
  rintro e w1 ⟨r, rfl, hr, hb1⟩
  have HT : Hid (r = true ↔ pgOK B o p) := hr
  have HB : Hid (Blw w w1) := hb0.trans hb1
  have HR0 : Hid (Row w1 w.heap.size 2 (fun i => if i = 0 then .slice b.a1 B.n b.c1 else .slice b.a2 B.k b.c2)) := r0.blw hb1
  have HR1 : Hid (Row w1 (w.heap.size + 1) 2 (fun i => if i = 0 then .slice none 0 0 else .slice none 0 0)) := r1.blw hb1
  replace HA : Hid (BookAt Y w1 b B) := HA.out.blw hb1
  obtain ⟨t0, t1⟩ := get2 HR1.out
  have f0 := HR1.out.frozen 0
  have f1 := HR1.out.frozen 1
  clear hr hb0 hb1 r0 r1
  cases r
  · have HN : Hid (¬ pgOK B o p) := fun g => by have := HT.out.2 g; simp at this
    clear HT
    go_wp2
    exact bodyPost_ret (v := .tuple #[BV.zero.val BD.zero, .bool false]) (by simp [results, Try.results38, go_sem, t0, t1]) rfl (zero_gives (Or.inr ⟨fun g => HN.out ⟨g.1, g.2.1, g.2.2.1, g.2.2.2.1⟩, rfl, rfl⟩) HB.out)
  have HP : Hid (pgOK B o p) := HT.out.1 (by first | rfl | trivial)
  clear HT
  obtain ⟨q, hq, hq16⟩ := pl_nat HP.out.2.2.1
  subst hq
  have hlt' : (q : Int) < 16 := by omega
  obtain ⟨n, c, k, l⟩ := B
  obtain ⟨a1, a2, c1, c2⟩ := b
  have hn16 : n = 16 := HP.out.1.n
  have hk16 : k = 16 := HP.out.1.k
  subst hn16 hk16
  simp only [BV.val] at *
  have G : Hid (BD.Good ⟨16, c, 16, l⟩) := HP.out.1
  obtain ⟨bb, oo, rfl, -, gq⟩ := HA.out.l.2 q hq16
  obtain ⟨p0, p1⟩ := get2 HR0.out
  have e2 : l ((q : Int)).toNat = l q := by rw [Int.toNat_natCast]
  have hpos : 0 ≤ l q ∧ l q ≤ 6 := (G.out.ok q hq16).2.1
  by_cases hl : l q = 0
  · have d1 : (l q == 0) = true := by simp [hl]
    have HN : Hid (¬ backOK ⟨16, c, 16, l⟩ o q) := fun g => g.2.2.2.2 (e2.trans hl)
    clear hl e2
    go_wp2
    exact bodyPost_ret (v := .tuple #[BV.zero.val BD.zero, .bool false]) (by simp [results, Try.results38, go_sem, t0, t1]) rfl (zero_gives (Or.inr ⟨HN.out, rfl, rfl⟩) HB.out)
  have d1 : (l q == 0) = false := by simp [hl]
  have OK : Hid (backOK ⟨16, c, 16, l⟩ o q) := ⟨HP.out.1, HP.out.2.1, HP.out.2.2.1, HP.out.2.2.2, fun h => hl (e2.symm.trans h)⟩
  have HZ : Hid (w.heap.size + 1 < w1.heap.size) := HR1.out.lt
  clear hpos e2 HP hl
  go_wp2_with fail
  clear p0 p1 gq t0 t1 f0 f1
  refine (l5Own_any ⟨a1, some ⟨bb, oo, none⟩, c1, c2⟩ ⟨16, c, 16, l⟩ Y _ (by show 16 + 16 ≤ _; omega) HA.out).mono ?_
  rintro e w2 ⟨⟨u1, u2, u3, u4⟩, rfl, own, hb2⟩
  obtain ⟨y, ey⟩ := own16 own
  dsimp only at ey
  subst ey
  simp only [BV.val]
  have hA : Blw w2 (w2.alloc (.cells #[.slice u1 16 u3, .slice (some ⟨y, 0, none⟩) 16 u4] 25)) := (Blw.refl _).alloc _
  have own2 := own.blw hA
  have r2 := box2 w2 (.slice u1 16 u3) (.slice (some ⟨y, 0, none⟩) 16 u4) 25
  have r1 := (HR1.out.blw hb2).blw hA
  have hbw := (HB.out.trans hb2).trans hA
  have hs2 := hb2.size
  have hz := HZ.out
  obtain ⟨y', ey, hy, gc, gf, own3⟩ := book_lent own2 q (0) (fun x hx => by simp; omega)
  cases ey
  replace gc := gc hq16
  obtain ⟨s0, s1⟩ := get2 r2
  have nm : Mod (fun x => x = y) (w2.alloc (.cells #[.slice u1 16 u3, .slice (some ⟨y, 0, none⟩) 16 u4] 25)) ((w2.alloc (.cells #[.slice u1 16 u3, .slice (some ⟨y, 0, none⟩) 16 u4] 25)).setCell ⟨y, q, none⟩ (.int .i64 (0))) := Mod.setCell (X := fun x => x = y) _ (p := ⟨y, q, none⟩) rfl _
  have r2' := r2.mod nm (by omega)
  have r1' := r1.mod nm (by omega)
  have hbw' : Blw w _ := Mod.blw hbw nm (fun i hi => by omega)
  have hsz := nm.size
  rw [World.size_alloc] at hsz
  have FIN : Hid _ := fin_gives (out := resO (backOK ⟨16, c, 16, l⟩ o q) (lentTo ⟨16, c, 16, l⟩ q 0)) (w := w) (R := ⟨16, c, 16, upd l q (0)⟩) (Or.inl ⟨OK.out, rfl, rfl⟩) (by show 16 + 16 ≤ _; omega) hbw' own3 (fun x hx => ⟨by omega, by omega⟩)
  obtain ⟨v0, v1⟩ := get2 r2'
  obtain ⟨t0, t1⟩ := get2 r1'
  have f0 := r1'.frozen 0
  have f1 := r1'.frozen 1
  clear own own2 own3 r2 r1 r2' r1' hbw hbw' nm hA hb2 HR0 HR1 HA HB HZ OK G hs2 hz hsz hy
  go_wp2
  exact bodyPost_ret (v := .tuple #[(BV.mk u1 (some ⟨y, 0, none⟩) u3 u4).val ⟨16, c, 16, upd l q (0)⟩, .bool true]) (by simp [results, Try.results38, go_sem, t0, t1]) rfl FIN.out
end Go.Proofs.Ytfmmpddknanhbaa
