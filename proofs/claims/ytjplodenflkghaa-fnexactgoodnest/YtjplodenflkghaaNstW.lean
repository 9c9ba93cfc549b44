/- Nests: the program's GoodNest and WalkNest. -/
import Derived.Test.YtjplodenflkghaaNstI
namespace Go.Proofs.Ytjplodenflkghaa
open Go.RowKit
set_option linter.unusedSimpArgs false
set_option linter.unusedVariables false
theorem box_h10 (w : World) (D : ND) (z1 z2 : Nat) : Row (w.alloc (.cells (held10 D.G.c D.H.c z1 4 z2 4) 138)) w.heap.size 10 (hten D.G.c D.H.c (.slice (some ⟨z1, 0, none⟩) 4 4) (.slice (some ⟨z2, 0, none⟩) 4 4)) := box10 w _ _ _ _ _ _ _ _ _ _ 138
set_option maxRecDepth 10000 in
set_option maxHeartbeats 1600000 in
theorem implGoodN_any (v : NV) (D : ND) (Y : Nat → Prop) (w : World) (h : NAt Y w v D) (hY : ∀ x, Y x → x < w.heap.size) :
    Calls Try.prog 41 #[v.val D] w fun e w' => ∃ r, e = .returned (.bool r) ∧ (r = true ↔ D.Good) ∧ Blw w w' := by
  have hb0 : Blw w (w.alloc (.cells #[.slice v.g.a1 D.G.n v.g.c1, .slice v.g.a2 D.G.D.n v.g.c2, .slice v.h.a1 D.H.n v.h.c1, .slice v.h.a2 D.H.D.n v.h.c2] 60)) := (Blw.refl _).alloc _
  have HA : Hid (NAt Y (w.alloc (.cells #[.slice v.g.a1 D.G.n v.g.c1, .slice v.g.a2 D.G.D.n v.g.c2, .slice v.h.a1 D.H.n v.h.c1, .slice v.h.a2 D.H.D.n v.h.c2] 60)) v D) := h.blw hb0
  have HR : Hid (Row (w.alloc (.cells #[.slice v.g.a1 D.G.n v.g.c1, .slice v.g.a2 D.G.D.n v.g.c2, .slice v.h.a1 D.H.n v.h.c1, .slice v.h.a2 D.H.D.n v.h.c2] 60)) w.heap.size 4 (nb v D)) := box4 w _ _ _ _ 60
  have HB : Hid (Blw w (w.alloc (.cells #[.slice v.g.a1 D.G.n v.g.c1, .slice v.g.a2 D.G.D.n v.g.c2, .slice v.h.a1 D.H.n v.h.c1, .slice v.h.a2 D.H.D.n v.h.c2] 60))) := hb0
  have HYY : Hid (∀ x, Y x → x < (w.alloc (.cells #[.slice v.g.a1 D.G.n v.g.c1, .slice v.g.a2 D.G.D.n v.g.c2, .slice v.h.a1 D.H.n v.h.c1, .slice v.h.a2 D.H.D.n v.h.c2] 60)).heap.size) := fun x hx => by have := hY x hx; simp; omega
  clear h hb0 hY
  go_enter Try.func41, Try.ntmps41
  obtain ⟨p0, p1, p2, p3⟩ := get4 HR.out
  go_wp2_with fail
  clear p0 p1 p2 p3 HR
  generalize (w.alloc (.cells #[.slice v.g.a1 D.G.n v.g.c1, .slice v.g.a2 D.G.D.n v.g.c2, .slice v.h.a1 D.H.n v.h.c1, .slice v.h.a2 D.H.D.n v.h.c2] 60)) = w0 at *
  refine (holdNest_any v D Y _ HA.out HYY.out).mono ?_
  rintro e w1 ⟨h1, hb1⟩
  rcases h1 with ⟨z1, z2, hg, rfl, hrow, hrow2, hlo, hlo2⟩ | ⟨hg, rfl⟩
  case inr =>
    have FIN : Hid (Blw w (w1.alloc (.cells zero10 138))) := (HB.out.trans hb1).alloc _
    have HG : Hid (¬ D.Good) := hg
    clear hb1 hg HA HYY HB
    go_wp2
    exact bodyPost_ret (v := .bool false) (by simp [results, Try.results41, go_sem]) rfl ⟨_, rfl, iff_f HG.out, FIN.out⟩
  have FIN : Hid (Blw w (w1.alloc (.cells (held10 D.G.c D.H.c z1 4 z2 4) 138))) := (HB.out.trans hb1).alloc _
  have HG : Hid D.Good := hg
  clear hb1 hg HA HYY HB hrow hrow2 hlo hlo2
  go_wp2
  exact bodyPost_ret (v := .bool true) (by simp [results, Try.results41, go_sem]) rfl ⟨_, rfl, iff_t HG.out, FIN.out⟩
set_option maxRecDepth 10000 in
set_option maxHeartbeats 1600000 in
theorem lookUpN_any (D : ND) (z1 z2 a : Nat) (k : Int) (w : World) (g : D.Good) (ha : a < 16) (h1 : Row w z1 (4 * 8) (lc D.G.D.p D.G.D.m)) (h2 : Row w z2 (4 * 8) (lc D.H.D.p D.H.D.m)) :
    Calls Try.prog 116 #[.agg (held10 D.G.c D.H.c z1 4 z2 4), .int .i64 a, .int .i64 k] w fun e w' => ∃ x c, e = .returned (.tuple #[.int .i64 x, .int .i64 c]) ∧ nwOut D.G D.H a k x c ∧ Blw w w' := by
  have hA : Blw w (w.alloc (.cells (held10 D.G.c D.H.c z1 4 z2 4) 138)) := (Blw.refl _).alloc _
  have HR : Hid (Row (w.alloc (.cells (held10 D.G.c D.H.c z1 4 z2 4) 138)) w.heap.size 10 (hten D.G.c D.H.c (.slice (some ⟨z1, 0, none⟩) 4 4) (.slice (some ⟨z2, 0, none⟩) 4 4))) := box_h10 w D z1 z2
  have HG : Hid (Row (w.alloc (.cells (held10 D.G.c D.H.c z1 4 z2 4) 138)) z1 (4 * 8) (lc D.G.D.p D.G.D.m)) := h1.blw hA
  have HH : Hid (Row (w.alloc (.cells (held10 D.G.c D.H.c z1 4 z2 4) 138)) z2 (4 * 8) (lc D.H.D.p D.H.D.m)) := h2.blw hA
  have HB : Hid (Blw w (w.alloc (.cells (held10 D.G.c D.H.c z1 4 z2 4) 138))) := hA
  have HGD : Hid D.Good := g
  have HT1 : Hid (∀ i, i < 4 → -1 ≤ D.G.c i ∧ D.G.c i ≤ ((4 : Nat) : Int) - 1) := fun i hi => by have := g.g.top i (by rw [g.g.n]; exact hi); rw [g.ng] at this; exact this
  have HT2 : Hid (∀ i, i < 4 → -1 ≤ D.H.c i ∧ D.H.c i ≤ ((4 : Nat) : Int) - 1) := fun i hi => by have := g.h.top i (by rw [g.h.n]; exact hi); rw [g.nh] at this; exact this
  have hgp : 0 ≤ gP D.G a ∧ gP D.G a ≤ 15 := (leafs g.g ha).1
  obtain ⟨y, hy⟩ : ∃ y : Nat, gP D.G a = y := ⟨(gP D.G a).toNat, by omega⟩
  have hy16 : y < 16 := by omega
  have HY : Hid (gP D.G a = (y : Int)) := hy
  have HYN : Hid ((gP D.G a).toNat = y) := by show _ = _; rw [hy, Int.toNat_natCast]
  have HX : Hid (fX D.G D.H a = gP D.H y) := by show gP D.H (gP D.G a).toNat = _; rw [hy, Int.toNat_natCast]
  clear h1 h2 hA g hgp hy
  go_enter Try.func116, Try.ntmps116
  obtain ⟨p0, p1, p2, p3, p4, p5, p6, p7, p8, p9⟩ := get10 HR.out
  go_wp2_with fail
  clear p0 p1 p2 p3 p4 p5 p6 p7 p8 p9
  generalize (w.alloc (.cells (held10 D.G.c D.H.c z1 4 z2 4) 138)) = w0 at *
  refine (lookUp_any D.G.c z1 4 D.G.D.p D.G.D.m a k _ (by omega) HT1.out ha HG.out).mono ?_
  rintro e w1 ⟨x, yy, r, rfl, ho, hb1⟩
  replace HR : Hid (Row w1 w.heap.size 10 (hten D.G.c D.H.c (.slice (some ⟨z1, 0, none⟩) 4 4) (.slice (some ⟨z2, 0, none⟩) 4 4))) := HR.out.blw hb1
  replace HH : Hid (Row w1 z2 (4 * 8) (lc D.H.D.p D.H.D.m)) := HH.out.blw hb1
  replace HB : Hid (Blw w w1) := HB.out.trans hb1
  clear hb1 HG
  rcases ho with ⟨e1, ⟨hm, e2, rfl⟩ | ⟨hm, rfl, rfl⟩⟩
  case inr =>
    have FIN : Hid (∃ x c, (Ending.returned (.tuple #[.int .i64 0, .int .i64 1])) = .returned (.tuple #[.int .i64 x, .int .i64 c]) ∧ nwOut D.G D.H a k x c ∧ Blw w w1) := ⟨0, 1, rfl, Or.inl ⟨hm, rfl, rfl⟩, HB.out⟩
    clear hm e1 HR HH HB
    go_wp2
    exact bodyPost_ret (v := .tuple #[.int .i64 0, .int .i64 1]) (by simp [results, Try.results116, go_sem]) rfl FIN.out
  have HM : Hid (hasMay (gM D.G a) k) := hm
  have e3 : x = (y : Int) := e2.trans HY.out
  subst e3
  clear hm e1 e2
  obtain ⟨p0, p1, p2, p3, p4, p5, p6, p7, p8, p9⟩ := get10 HR.out
  go_wp2_with fail
  clear p0 p1 p2 p3 p4 p5 p6 p7 p8 p9
  refine (lookUp_any D.H.c z2 4 D.H.D.p D.H.D.m y k _ (by omega) HT2.out hy16 HH.out).mono ?_
  rintro e w2 ⟨x, yz, r, rfl, ho, hb1⟩
  replace HB : Hid (Blw w w2) := HB.out.trans hb1
  clear hb1 HR HH
  rcases ho with ⟨e1, ⟨hm, rfl, rfl⟩ | ⟨hm, rfl, rfl⟩⟩
  · have FIN : Hid (∃ x' c, (Ending.returned (.tuple #[.int .i64 (lfP D.H.c D.H.D.p y), .int .i64 0])) = .returned (.tuple #[.int .i64 x', .int .i64 c]) ∧ nwOut D.G D.H a k x' c ∧ Blw w w2) := ⟨_, 0, rfl, Or.inr (Or.inr ⟨HM.out, by rw [HYN.out]; exact hm, HX.out.symm, rfl⟩), HB.out⟩
    clear hm e1 HB
    go_wp2
    exact bodyPost_ret (v := .tuple #[.int .i64 (lfP D.H.c D.H.D.p y), .int .i64 0]) (by simp [results, Try.results116, go_sem]) rfl FIN.out
  · have FIN : Hid (∃ x c, (Ending.returned (.tuple #[.int .i64 0, .int .i64 2])) = .returned (.tuple #[.int .i64 x, .int .i64 c]) ∧ nwOut D.G D.H a k x c ∧ Blw w w2) := ⟨0, 2, rfl, Or.inr (Or.inl ⟨HM.out, by rw [HYN.out]; exact hm, rfl, rfl⟩), HB.out⟩
    clear hm e1 HB
    go_wp2
    exact bodyPost_ret (v := .tuple #[.int .i64 0, .int .i64 2]) (by simp [results, Try.results116, go_sem]) rfl FIN.out
set_option maxRecDepth 10000 in
set_option maxHeartbeats 1600000 in
theorem implWalkN_any (v : NV) (D : ND) (a k : Int) (Y : Nat → Prop) (w : World) (h : NAt Y w v D) (hY : ∀ x, Y x → x < w.heap.size) :
    Calls Try.prog 43 #[v.val D, .int .i64 a, .int .i64 k] w fun e w' => ∃ x c r, e = .returned (.tuple #[.int .i64 x, .int .i64 c, .bool r]) ∧ wnOut D a k x c r ∧ Blw w w' := by
  have hb0 : Blw w (w.alloc (.cells #[.slice v.g.a1 D.G.n v.g.c1, .slice v.g.a2 D.G.D.n v.g.c2, .slice v.h.a1 D.H.n v.h.c1, .slice v.h.a2 D.H.D.n v.h.c2] 60)) := (Blw.refl _).alloc _
  have HA : Hid (NAt Y (w.alloc (.cells #[.slice v.g.a1 D.G.n v.g.c1, .slice v.g.a2 D.G.D.n v.g.c2, .slice v.h.a1 D.H.n v.h.c1, .slice v.h.a2 D.H.D.n v.h.c2] 60)) v D) := h.blw hb0
  have HR : Hid (Row (w.alloc (.cells #[.slice v.g.a1 D.G.n v.g.c1, .slice v.g.a2 D.G.D.n v.g.c2, .slice v.h.a1 D.H.n v.h.c1, .slice v.h.a2 D.H.D.n v.h.c2] 60)) w.heap.size 4 (nb v D)) := box4 w _ _ _ _ 60
  have HB : Hid (Blw w (w.alloc (.cells #[.slice v.g.a1 D.G.n v.g.c1, .slice v.g.a2 D.G.D.n v.g.c2, .slice v.h.a1 D.H.n v.h.c1, .slice v.h.a2 D.H.D.n v.h.c2] 60))) := hb0
  have HYY : Hid (∀ x, Y x → x < (w.alloc (.cells #[.slice v.g.a1 D.G.n v.g.c1, .slice v.g.a2 D.G.D.n v.g.c2, .slice v.h.a1 D.H.n v.h.c1, .slice v.h.a2 D.H.D.n v.h.c2] 60)).heap.size) := fun x hx => by have := hY x hx; simp; omega
  clear h hb0 hY
  go_enter Try.func43, Try.ntmps43
  obtain ⟨p0, p1, p2, p3⟩ := get4 HR.out
  go_wp2_with fail
  clear p0 p1 p2 p3 HR
  generalize (w.alloc (.cells #[.slice v.g.a1 D.G.n v.g.c1, .slice v.g.a2 D.G.D.n v.g.c2, .slice v.h.a1 D.H.n v.h.c1, .slice v.h.a2 D.H.D.n v.h.c2] 60)) = w0 at *
  refine (holdNest_any v D Y _ HA.out HYY.out).mono ?_
  rintro e w1 ⟨h1, hb1⟩
  rcases h1 with ⟨z1, z2, hg, rfl, hrow, hrow2, hlo, hlo2⟩ | ⟨hg, rfl⟩
  case inr =>
    have FIN : Hid (Blw w (w1.alloc (.cells zero10 138))) := (HB.out.trans hb1).alloc _
    have HG : Hid (¬ D.Good) := hg
    clear hb1 hg HA HYY HB
    go_wp2
    exact bodyPost_ret (v := .tuple #[.int .i64 0, .int .i64 0, .bool false]) (by simp [results, Try.results43, go_sem]) rfl ⟨_, _, _, rfl, Or.inl ⟨fun q => HG.out q.1, rfl, rfl, rfl⟩, FIN.out⟩
  have hA : Blw w1 (w1.alloc (.cells (held10 D.G.c D.H.c z1 4 z2 4) 138)) := (Blw.refl _).alloc _
  have HB2 : Hid (Blw w (w1.alloc (.cells (held10 D.G.c D.H.c z1 4 z2 4) 138))) := (HB.out.trans hb1).trans hA
  have HG : Hid D.Good := hg
  have HT : Hid (Row (w1.alloc (.cells (held10 D.G.c D.H.c z1 4 z2 4) 138)) w1.heap.size 10 (hten D.G.c D.H.c (.slice (some ⟨z1, 0, none⟩) 4 4) (.slice (some ⟨z2, 0, none⟩) 4 4))) := box_h10 w1 D z1 z2
  have HGL : Hid (Row (w1.alloc (.cells (held10 D.G.c D.H.c z1 4 z2 4) 138)) z1 (4 * 8) (lc D.G.D.p D.G.D.m)) := hrow.blw hA
  have HHL : Hid (Row (w1.alloc (.cells (held10 D.G.c D.H.c z1 4 z2 4) 138)) z2 (4 * 8) (lc D.H.D.p D.H.D.m)) := hrow2.blw hA
  clear hb1 hg HA HYY HB hrow hrow2 hlo hlo2 hA
  go_upto_region 2 with fail
  generalize (w1.alloc (.cells (held10 D.G.c D.H.c z1 4 z2 4) 138)) = w2 at *
  generalize w1.heap.size = zn at *
  go_wp2_with fail
  refine (isPlace_any a _).mono ?_
  rintro e w2 ⟨r, rfl, hr, rfl⟩
  have HTT : Hid (r = true ↔ pgOK a) := hr
  clear hr
  cases r
  · have HN : Hid (¬ pgOK a) := fun g => by have := HTT.out.2 g; simp at this
    clear HTT HT HGL HHL
    go_wp2
    exact bodyPost_ret (v := .tuple #[.int .i64 0, .int .i64 0, .bool false]) (by simp [results, Try.results43, go_sem]) rfl ⟨_, _, _, rfl, Or.inl ⟨fun q => HN.out q.2.1, rfl, rfl, rfl⟩, HB2.out⟩
  have H1 : Hid (pgOK a) := HTT.out.1 (by first | rfl | trivial)
  clear HTT
  go_wp2_with fail
  refine (isMay_any k _).mono ?_
  rintro e w2 ⟨r, rfl, hr, rfl⟩
  have HTT : Hid (r = true ↔ mayOK k) := hr
  clear hr
  cases r
  · have HN : Hid (¬ mayOK k) := fun g => by have := HTT.out.2 g; simp at this
    clear HTT HT HGL HHL
    go_wp2
    exact bodyPost_ret (v := .tuple #[.int .i64 0, .int .i64 0, .bool false]) (by simp [results, Try.results43, go_sem]) rfl ⟨_, _, _, rfl, Or.inl ⟨fun q => HN.out q.2.2, rfl, rfl, rfl⟩, HB2.out⟩
  have H2 : Hid (mayOK k) := HTT.out.1 (by first | rfl | trivial)
  clear HTT
  obtain ⟨x, hx, hx16⟩ : ∃ x : Nat, a = x ∧ x < 16 := ⟨a.toNat, by have := H1.out; unfold pgOK at this; omega, by have := H1.out; unfold pgOK at this; omega⟩
  subst hx
  obtain ⟨p0, p1, p2, p3, p4, p5, p6, p7, p8, p9⟩ := get10 HT.out
  go_wp2_with fail
  clear p0 p1 p2 p3 p4 p5 p6 p7 p8 p9
  refine (lookUpN_any D z1 z2 x k _ HG.out hx16 HGL.out HHL.out).mono ?_
  rintro e w3 ⟨p, c, rfl, ho, hb2⟩
  have FIN : Hid (∃ x' c' r, (Ending.returned (.tuple #[.int .i64 p, .int .i64 c, .bool true])) = .returned (.tuple #[.int .i64 x', .int .i64 c', .bool r]) ∧ wnOut D (x : Int) k x' c' r ∧ Blw w w3) := ⟨p, c, true, rfl, Or.inr ⟨⟨HG.out, H1.out, H2.out⟩, by rw [Int.toNat_natCast]; exact ho, rfl⟩, HB2.out.trans hb2⟩
  clear ho hb2 HB2 HT HGL HHL
  go_wp2
  exact bodyPost_ret (v := .tuple #[.int .i64 p, .int .i64 c, .bool true]) (by simp [results, Try.results43, go_sem]) rfl FIN.out
end Go.Proofs.Ytjplodenflkghaa
