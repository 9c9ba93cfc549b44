/- Flat tables: the program's. -/
import Derived.Test.YtjplodenflkghaaJoin6
namespace Go.Proofs.Ytjplodenflkghaa
open Go.RowKit
set_option linter.unusedSimpArgs false
set_option linter.unusedVariables false
set_option maxRecDepth 10000 in
set_option maxHeartbeats 1600000 in
theorem behind_any (d : Nat → Int) (z2 : Nat) (p m : Nat → Nat → Int) (y : Nat) (gm : Int) (w : World) (ht : ∀ i, i < 4 → -1 ≤ d i ∧ d i ≤ ((4 : Nat) : Int) - 1) (hy : y < 16) (hl : Row w z2 (4 * 8) (lc p m)) :
    Calls Try.prog 167 #[.agg (held5 d z2 4), .agg #[.int .i64 (y : Int), .int .i64 gm]] w fun e w' => e = .returned (.agg #[.int .i64 (lfP d p y), .int .i64 (bits .and .i64 (lfP d m y) gm)]) ∧ Blw w w' := by
  have b1 : Blw w (w.alloc (.cells (held5 d z2 4) 136)) := (Blw.refl _).alloc _
  have b2 : Blw (w.alloc (.cells (held5 d z2 4) 136)) ((w.alloc (.cells (held5 d z2 4) 136)).alloc (.cells #[.int .i64 (y : Int), .int .i64 gm] 144)) := (Blw.refl _).alloc _
  have b3 : Blw ((w.alloc (.cells (held5 d z2 4) 136)).alloc (.cells #[.int .i64 (y : Int), .int .i64 gm] 144)) (((w.alloc (.cells (held5 d z2 4) 136)).alloc (.cells #[.int .i64 (y : Int), .int .i64 gm] 144)).alloc (.cells #[.int .i64 0, .int .i64 0] 144)) := (Blw.refl _).alloc _
  have H5 : Hid (Row (((w.alloc (.cells (held5 d z2 4) 136)).alloc (.cells #[.int .i64 (y : Int), .int .i64 gm] 144)).alloc (.cells #[.int .i64 0, .int .i64 0] 144)) w.heap.size 5 (row5f d (.slice (some ⟨z2, 0, none⟩) 4 4))) := (row5 w (.int .i64 (d 0)) (.int .i64 (d 1)) (.int .i64 (d 2)) (.int .i64 (d 3)) (.slice (some ⟨z2, 0, none⟩) 4 4) 136).blw (b2.trans b3)
  have r2 := (box2 (w.alloc (.cells (held5 d z2 4) 136)) (.int .i64 (y : Int)) (.int .i64 gm) 144).blw b3
  rw [World.size_alloc] at r2
  have r3 := box2 ((w.alloc (.cells (held5 d z2 4) 136)).alloc (.cells #[.int .i64 (y : Int), .int .i64 gm] 144)) (.int .i64 0) (.int .i64 0) 144
  rw [World.size_alloc, World.size_alloc] at r3
  have HLF : Hid (Row (((w.alloc (.cells (held5 d z2 4) 136)).alloc (.cells #[.int .i64 (y : Int), .int .i64 gm] 144)).alloc (.cells #[.int .i64 0, .int .i64 0] 144)) (w.heap.size + 1) 2 (fun i => if i = 0 then .int .i64 (y : Int) else .int .i64 gm)) := r2
  have HZ : Hid (Row (((w.alloc (.cells (held5 d z2 4) 136)).alloc (.cells #[.int .i64 (y : Int), .int .i64 gm] 144)).alloc (.cells #[.int .i64 0, .int .i64 0] 144)) (w.heap.size + 1 + 1) 2 (fun i => if i = 0 then .int .i64 0 else .int .i64 0)) := r3
  have HL : Hid (Row (((w.alloc (.cells (held5 d z2 4) 136)).alloc (.cells #[.int .i64 (y : Int), .int .i64 gm] 144)).alloc (.cells #[.int .i64 0, .int .i64 0] 144)) z2 (4 * 8) (lc p m)) := hl.blw ((b1.trans b2).trans b3)
  have HB : Hid (Blw w (((w.alloc (.cells (held5 d z2 4) 136)).alloc (.cells #[.int .i64 (y : Int), .int .i64 gm] 144)).alloc (.cells #[.int .i64 0, .int .i64 0] 144))) := (b1.trans b2).trans b3
  have HS : Hid ((((w.alloc (.cells (held5 d z2 4) 136)).alloc (.cells #[.int .i64 (y : Int), .int .i64 gm] 144)).alloc (.cells #[.int .i64 0, .int .i64 0] 144)).heap.size = w.heap.size + 1 + 1 + 1) := by show _ = _; simp
  have HT : Hid (∀ i, i < 4 → -1 ≤ d i ∧ d i ≤ ((4 : Nat) : Int) - 1) := ht
  clear b1 b2 b3 r2 r3 hl ht
  go_enter Try.func167, Try.ntmps167
  obtain ⟨p0, p1, p2, p3, p4⟩ := get5 H5.out
  obtain ⟨l0, l1⟩ := get2 HLF.out
  go_wp2_with fail
  clear p0 p1 p2 p3 p4 l0 l1
  generalize (((w.alloc (.cells (held5 d z2 4) 136)).alloc (.cells #[.int .i64 (y : Int), .int .i64 gm] 144)).alloc (.cells #[.int .i64 0, .int .i64 0] 144)) = w3 at *
  refine (leafAt_any d z2 4 p m y _ (by omega) HT.out hy HL.out).mono ?_
  rintro e w4 ⟨rfl, hb4⟩
  have hA : Blw w4 (w4.alloc (.cells #[.int .i64 (lfP d p y), .int .i64 (lfP d m y)] 144)) := (Blw.refl _).alloc _
  have rq := box2 w4 (.int .i64 (lfP d p y)) (.int .i64 (lfP d m y)) 144
  have hs4 := hb4.size
  have hs3 := HS.out
  have r5 := (HLF.out.blw hb4).blw hA
  have r6 := (HZ.out.blw hb4).blw hA
  have HBF : Hid (Blw w (w4.alloc (.cells #[.int .i64 (lfP d p y), .int .i64 (lfP d m y)] 144))) := (HB.out.trans hb4).trans hA
  have hzf : w.heap.size + 1 + 1 < w4.heap.size := by omega
  clear hb4 hA H5 HLF HZ HL HB hs4 hs3 HS
  go_upto_region 2 with fail
  generalize (w4.alloc (.cells #[.int .i64 (lfP d p y), .int .i64 (lfP d m y)] 144)) = w5 at *
  generalize w4.heap.size = zq at *
  obtain ⟨l0, l1⟩ := get2 r5
  obtain ⟨q0, q1⟩ := get2 rq
  have g1 := rq.frozen 1
  have HBG : Hid (Blw w (w5.setCell ⟨zq, 1, none⟩ (.int .i64 (bits .and .i64 (lfP d m y) gm)))) := HBF.out.setCell (by show _ ≤ zq; omega) _
  obtain ⟨t0, t1⟩ := get2 r6
  have f0 := r6.frozen 0
  have f1 := r6.frozen 1
  clear rq r5 r6 HBF
  go_wp2
  refine bodyPost_ret (v := .agg #[.int .i64 (lfP d p y), .int .i64 (bits .and .i64 (lfP d m y) gm)]) (by simp [results, Try.results167, go_sem, t0, t1]) rfl ?_
  exact ⟨rfl, set2_blw HBG.out (by omega) _ _⟩
theorem ng_topsG {D : ND} (g : D.Good) : ∀ i, i < 4 → -1 ≤ D.G.c i ∧ D.G.c i ≤ ((4 : Nat) : Int) - 1 := fun i hi => by have := g.g.top i (by rw [g.g.n]; exact hi); rw [g.ng] at this; exact this
theorem ng_topsH {D : ND} (g : D.Good) : ∀ i, i < 4 → -1 ≤ D.H.c i ∧ D.H.c i ≤ ((4 : Nat) : Int) - 1 := fun i hi => by have := g.h.top i (by rw [g.h.n]; exact hi); rw [g.nh] at this; exact this
theorem behindN_any (D : ND) (z2 j : Nat) (w : World) (g : D.Good) (hj : j < 16) (hl : Row w z2 (4 * 8) (lc D.H.D.p D.H.D.m)) :
    Calls Try.prog 167 #[.agg (held5 D.H.c z2 4), .agg #[.int .i64 (gP D.G j), .int .i64 (gM D.G j)]] w fun e w' => e = .returned (.agg #[.int .i64 (fX D.G D.H j), .int .i64 (fY D.G D.H j)]) ∧ Blw w w' := by
  have hgp : 0 ≤ gP D.G j ∧ gP D.G j ≤ 15 := (leafs g.g hj).1
  obtain ⟨y, hy⟩ : ∃ y : Nat, gP D.G j = y := ⟨(gP D.G j).toNat, by omega⟩
  have h := behind_any D.H.c z2 D.H.D.p D.H.D.m y (gM D.G j) w (ng_topsH g) (by omega) hl
  have e1 : fX D.G D.H j = lfP D.H.c D.H.D.p y := by unfold fX; rw [hy, Int.toNat_natCast]
  have e2 : fY D.G D.H j = bits .and .i64 (lfP D.H.c D.H.D.m y) (gM D.G j) := by unfold fY; rw [hy, Int.toNat_natCast]
  rw [e1, e2, hy]
  exact h
/-- What the walk for a flat table stands on. -/
structure FT (D : ND) (zh z1 z2 zf zl : Nat) (B : BD) (w : World) : Prop where
  h : Row w zh 10 (hten D.G.c D.H.c (.slice (some ⟨z1, 0, none⟩) 4 4) (.slice (some ⟨z2, 0, none⟩) 4 4))
  l1 : Row w z1 (4 * 8) (lc D.G.D.p D.G.D.m)
  l2 : Row w z2 (4 * 8) (lc D.H.D.p D.H.D.m)
  f : Row w zf 5 (row5f B.c (.slice (some ⟨zl, 0, none⟩) 4 4))
  lf : Row w zl (4 * 8) (lc B.D.p B.D.m)
  ne : (zh ≠ zf ∧ zh ≠ zl) ∧ (z1 ≠ zf ∧ z1 ≠ zl) ∧ (z2 ≠ zf ∧ z2 ≠ zl) ∧ zf ≠ zl
theorem FT.go {D : ND} {zh z1 z2 zf zl : Nat} {B : BD} {w w' : World} (h : FT D zh z1 z2 zf zl B w) (hb : Blw w w') : FT D zh z1 z2 zf zl B w' :=
  ⟨h.h.blw hb, h.l1.blw hb, h.l2.blw hb, h.f.blw hb, h.lf.blw hb, h.ne⟩
theorem FT.put {D : ND} {zh z1 z2 zf zl : Nat} {B B' : BD} {w w' : World} (h : FT D zh z1 z2 zf zl B w) (hm : Mod (fun b => b = zf ∨ b = zl) w w') (r1 : Row w' zf 5 (row5f B'.c (.slice (some ⟨zl, 0, none⟩) 4 4))) (r2 : Row w' zl (4 * 8) (lc B'.D.p B'.D.m)) : FT D zh z1 z2 zf zl B' w' := by
  obtain ⟨⟨a1, a2⟩, ⟨b1, b2⟩, ⟨c1, c2⟩, d⟩ := h.ne
  exact ⟨h.h.mod hm (by omega), h.l1.mod hm (by omega), h.l2.mod hm (by omega), r1, r2, h.ne⟩
set_option maxRecDepth 10000 in
set_option maxHeartbeats 3200000 in
theorem flatFn_any (D : ND) (zh z1 z2 zf zl j : Nat) (B : BD) (w : World) (g : D.Good) (hj : j < 16) (hF : Fl D.G D.H j B) (h : FT D zh z1 z2 zf zl B w) :
    Calls Try.prog 166 #[.int .i64 (j : Int), .agg #[.int .i64 (gP D.G j), .int .i64 (gM D.G j)], .pointer (some ⟨zh, 0, none⟩), .pointer (some ⟨zf, 0, none⟩)] w fun e w' => (∃ u, e = .returned u) ∧ ∃ B', Fl D.G D.H (j + 1) B' ∧ FT D zh z1 z2 zf zl B' w' ∧ Mod (fun b => b = zf ∨ b = zl) w w' := by
  have hA : Blw w (w.alloc (.cells #[.int .i64 (gP D.G j), .int .i64 (gM D.G j)] 144)) := (Blw.refl _).alloc _
  have HT : Hid (FT D zh z1 z2 zf zl B (w.alloc (.cells #[.int .i64 (gP D.G j), .int .i64 (gM D.G j)] 144))) := h.go hA
  have HLF : Hid (Row (w.alloc (.cells #[.int .i64 (gP D.G j), .int .i64 (gM D.G j)] 144)) w.heap.size 2 (fun i => if i = 0 then .int .i64 (gP D.G j) else .int .i64 (gM D.G j))) := box2 w _ _ 144
  have HM : Hid (Mod (fun b => b = zf ∨ b = zl) w (w.alloc (.cells #[.int .i64 (gP D.G j), .int .i64 (gM D.G j)] 144))) := hA.mod _
  have HF : Hid (Fl D.G D.H j B) := hF
  have HG : Hid D.Good := g
  clear hA h hF g
  go_enter Try.func166, Try.ntmps166
  obtain ⟨-, -, -, -, -, p5, p6, p7, p8, p9⟩ := get10 HT.out.h
  obtain ⟨l0, l1⟩ := get2 HLF.out
  go_wp2_with fail
  clear p5 p6 p7 p8 p9 l0 l1
  refine (behindN_any D z2 j _ HG.out hj HT.out.l2).mono ?_
  rintro e w2 ⟨rfl, hb2⟩
  have hA : Blw w2 (w2.alloc (.cells #[.int .i64 (fX D.G D.H j), .int .i64 (fY D.G D.H j)] 144)) := (Blw.refl _).alloc _
  have HQ : Hid (Row (w2.alloc (.cells #[.int .i64 (fX D.G D.H j), .int .i64 (fY D.G D.H j)] 144)) w2.heap.size 2 (fun i => if i = 0 then .int .i64 (fX D.G D.H j) else .int .i64 (fY D.G D.H j))) := box2 w2 _ _ 144
  replace HT : Hid (FT D zh z1 z2 zf zl B (w2.alloc (.cells #[.int .i64 (fX D.G D.H j), .int .i64 (fY D.G D.H j)] 144))) := (HT.out.go hb2).go hA
  replace HM : Hid (Mod (fun b => b = zf ∨ b = zl) w (w2.alloc (.cells #[.int .i64 (fX D.G D.H j), .int .i64 (fY D.G D.H j)] 144))) := HM.out.trans ((hb2.trans hA).mod _)
  clear hb2 hA HLF
  go_upto_region 2 with fail
  generalize (w2.alloc (.cells #[.int .i64 (fX D.G D.H j), .int .i64 (fY D.G D.H j)] 144)) = w3 at *
  generalize w2.heap.size = zq at *
  obtain ⟨q0, q1⟩ := get2 HQ.out
  by_cases hd : fY D.G D.H j = 0
  · have e1 : (fY D.G D.H j != 0) = false := by simp [hd]
    have FIN : Hid (∃ B', Fl D.G D.H (j + 1) B' ∧ FT D zh z1 z2 zf zl B' w3 ∧ Mod (fun b => b = zf ∨ b = zl) w w3) := ⟨B, .skip HF.out hd, HT.out, HM.out⟩
    clear hd HT HM HQ
    go_wp2
    refine bodyPost_end (results_none rfl _ _ _) rfl ?_
    exact ⟨⟨_, rfl⟩, FIN.out⟩
  have e1 : (fY D.G D.H j != 0) = true := by simp [hd]
  have HD : Hid (¬ fY D.G D.H j = 0) := hd
  clear hd
  have OK : Hid (FlOK D.G D.H j B) := HF.out.ok HG.out (by omega)
  have HTB : Hid (∀ i, i < 4 → -1 ≤ B.c i ∧ B.c i ≤ ((4 : Nat) : Int) - 1) := fun i hi => by have := OK.out.good.top i (by rw [OK.out.good.n]; exact hi); rw [OK.out.n] at this; exact this
  go_wp2_with fail
  clear q0 q1 e1
  refine (put_any B.c zl 4 B.D.p B.D.m zf j (fX D.G D.H j) (fY D.G D.H j) _ (by omega) HTB.out hj HT.out.ne.2.2.2 HT.out.f HT.out.lf).mono ?_
  rintro e w4 ho
  have HO : Hid (∃ q : Nat, goes B.c 4 (j / 4) q ∧ e = .returned (.bool true) ∧ Row w4 zf 5 (row5f (topsOf B.c (j / 4) q (upd2 B.D.p q (j % 4) (fX D.G D.H j) q) (upd2 B.D.m q (j % 4) (fY D.G D.H j) q)) (.slice (some ⟨zl, 0, none⟩) 4 4)) ∧ Row w4 zl (4 * 8) (lc (upd2 B.D.p q (j % 4) (fX D.G D.H j)) (upd2 B.D.m q (j % 4) (fY D.G D.H j))) ∧ Mod (fun b => b = zf ∨ b = zl) w3 w4) := by
    rcases ho with ho | ⟨hn, _⟩
    · exact ho
    · exact absurd (by have h9 := HF.out.can HG.out hj; rw [OK.out.n] at h9; exact h9) hn
  clear ho
  obtain ⟨q, hq, rfl, r1, r2, hm⟩ := HO.out
  have FIN : Hid (∃ B', Fl D.G D.H (j + 1) B' ∧ FT D zh z1 z2 zf zl B' w4 ∧ Mod (fun b => b = zf ∨ b = zl) w w4) := ⟨_, .put (q := q) HF.out HD.out (by rw [OK.out.n]; exact hq), HT.out.put hm r1 r2, HM.out.trans hm⟩
  clear HO hq r1 r2 hm HT HM HQ HTB
  go_wp2
  refine bodyPost_end (results_none rfl _ _ _) rfl ?_
  exact ⟨⟨_, rfl⟩, FIN.out⟩
set_option maxRecDepth 10000 in
set_option maxHeartbeats 3200000 in
theorem walkFlat_any (D : ND) (zh z1 z2 zf zl : Nat) (B : BD) (w0 : World) (g : D.Good) (hF : Fl D.G D.H 0 B) (h : FT D zh z1 z2 zf zl B w0) :
    Calls Try.prog 165 #[.agg (held5 D.G.c z1 4), .func (.func 166) #[] #[.pointer (some ⟨zh, 0, none⟩), .pointer (some ⟨zf, 0, none⟩)]] w0 fun e w' => (∃ u, e = .returned u) ∧ ∃ B', Fl D.G D.H 16 B' ∧ FT D zh z1 z2 zf zl B' w' ∧ Mod (fun b => b = zf ∨ b = zl) w0 w' := by
  have hA : Blw w0 (w0.alloc (.cells (held5 D.G.c z1 4) 129)) := (Blw.refl _).alloc _
  have HR5 : Hid (Row (w0.alloc (.cells (held5 D.G.c z1 4) 129)) w0.heap.size 5 (row5f D.G.c (.slice (some ⟨z1, 0, none⟩) 4 4))) := row5 w0 (.int .i64 (D.G.c 0)) (.int .i64 (D.G.c 1)) (.int .i64 (D.G.c 2)) (.int .i64 (D.G.c 3)) (.slice (some ⟨z1, 0, none⟩) 4 4) 129
  have HT0 : Hid (FT D zh z1 z2 zf zl B (w0.alloc (.cells (held5 D.G.c z1 4) 129))) := h.go hA
  have HM0 : Hid (Mod (fun b => b = zf ∨ b = zl) w0 (w0.alloc (.cells (held5 D.G.c z1 4) 129))) := hA.mod _
  have HNE : Hid (w0.heap.size ≠ zf ∧ w0.heap.size ≠ zl) := ⟨by have := h.f.lt; omega, by have := h.lf.lt; omega⟩
  have HG : Hid D.Good := g
  have HF0 : Hid (Fl D.G D.H 0 B) := hF
  clear hA h g hF
  go_enter Try.func165, Try.ntmps165
  go_wp2_with fail
  generalize w0.heap.size = z5 at *
  generalize (w0.alloc (.cells (held5 D.G.c z1 4) 129)) = w1 at *
  go_loopw [5] (fun i wq => ∃ j : Nat, j ≤ 16 ∧ i = .int .i64 j ∧ ∃ B', Fl D.G D.H j B' ∧ FT D zh z1 z2 zf zl B' wq ∧ Row wq z5 5 (row5f D.G.c (.slice (some ⟨z1, 0, none⟩) 4 4)) ∧ Mod (fun b => b = zf ∨ b = zl) w0 wq) (fun i _ => 16 - (intOf i).toNat)
  case atStart => exact ⟨0, by omega, rfl, B, HF0.out, HT0.out, HR5.out, HM0.out⟩
  case round =>
    obtain ⟨j, hj, rfl, B2, hF, hT, hR, hM⟩ := hrel
    clear HT0 HR5 HM0 HF0
    have HF : Hid (Fl D.G D.H j B2) := hF
    have HT : Hid (FT D zh z1 z2 zf zl B2 wr) := hT
    have HR : Hid (Row wr z5 5 (row5f D.G.c (.slice (some ⟨z1, 0, none⟩) 4 4))) := hR
    have HM : Hid (Mod (fun b => b = zf ∨ b = zl) w0 wr) := hM
    clear hF hT hR hM
    by_cases hlt : j < 16
    · have hlt' : (j : Int) < 16 := by omega
      obtain ⟨p0, p1, p2, p3, p4⟩ := get5 HR.out
      go_wp2_with fail
      clear p0 p1 p2 p3 p4
      refine (leafAt_any D.G.c z1 4 D.G.D.p D.G.D.m j _ (by omega) (ng_topsG HG.out) hlt HT.out.l1).mono ?_
      rintro e w2 ⟨rfl, hb2⟩
      replace HT : Hid (FT D zh z1 z2 zf zl B2 w2) := HT.out.go hb2
      replace HR : Hid (Row w2 z5 5 (row5f D.G.c (.slice (some ⟨z1, 0, none⟩) 4 4))) := HR.out.blw hb2
      replace HM : Hid (Mod (fun b => b = zf ∨ b = zl) w0 w2) := HM.out.trans (hb2.mod _)
      clear hb2
      go_wp2_with fail
      refine (flatFn_any D zh z1 z2 zf zl j B2 _ HG.out hlt HF.out HT.out).mono ?_
      rintro e w3 ⟨⟨u, rfl⟩, B3, hF3, hT3, hM3⟩
      have HN : Hid (∃ B', Fl D.G D.H (j + 1) B' ∧ FT D zh z1 z2 zf zl B' w3 ∧ Row w3 z5 5 (row5f D.G.c (.slice (some ⟨z1, 0, none⟩) 4 4)) ∧ Mod (fun b => b = zf ∨ b = zl) w0 w3) := ⟨B3, hF3, hT3, HR.out.mod hM3 (by have := HNE.out; omega), HM.out.trans hM3⟩
      clear HF HT HR HM hF3 hT3 hM3
      go_wp2
      go_roundw
      case rel => exact ⟨j + 1, by omega, by go_num, HN.out⟩
      case measure => simp [intOf]; omega
    · obtain rfl : j = 16 := by omega
      have HN : Hid (∃ B', Fl D.G D.H 16 B' ∧ FT D zh z1 z2 zf zl B' wr ∧ Mod (fun b => b = zf ∨ b = zl) w0 wr) := ⟨B2, HF.out, HT.out, HM.out⟩
      clear HF HT HR HM hlt
      go_wp2
      refine bodyPost_end (results_none rfl _ _ _) rfl ?_
      exact ⟨⟨_, rfl⟩, HN.out⟩
end Go.Proofs.Ytjplodenflkghaa
