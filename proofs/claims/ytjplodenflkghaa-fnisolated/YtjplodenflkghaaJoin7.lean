/- Merged by program, in this order: NstQ, OpenB, OpenN. -/
import Derived.ProofKit
import Derived.OpenShut
import Derived.ChangeOld
import Derived.Lib.SmallJoins
import Derived.Deep.Slices
import Derived.Deep.SlicePairs
import Derived.Deep.MidRow
import Derived.Test.YtjplodenflkghaaJoin6
/- Nests: both sides' WatchWrites and LetWrite. -/
namespace Go.Proofs.Ytjplodenflkghaa
open Go.RowKit
set_option linter.unusedSimpArgs false
set_option linter.unusedVariables false
theorem own4_eq {B : BD} (h : B.D.n = 4) : own4 B = ⟨4, B.c, ⟨4, fun _ => 4, B.D.p, B.D.m⟩⟩ := by
  obtain ⟨n, c, ⟨kn, len, p, m⟩⟩ := B
  dsimp only at h
  subst h
  rfl
theorem chB_eq {B : BD} {x q : Nat} {g y : Int} (h : B.D.n = 4) : chB B x q g y = ⟨4, topsOf B.c (x / 4) q (upd2 B.D.p q (x % 4) g q) (upd2 B.D.m q (x % 4) y q), ⟨4, fun _ => 4, upd2 B.D.p q (x % 4) g, upd2 B.D.m q (x % 4) y⟩⟩ := by
  obtain ⟨n, c, ⟨kn, len, p, m⟩⟩ := B
  dsimp only at h
  subst h
  rfl
theorem ng_tops {D : ND} (g : D.Good) : (∀ i, i < 4 → -1 ≤ D.G.c i ∧ D.G.c i ≤ ((4 : Nat) : Int) - 1) ∧ (∀ i, i < 4 → -1 ≤ D.H.c i ∧ D.H.c i ≤ ((4 : Nat) : Int) - 1) :=
  ⟨fun i hi => by have := g.g.top i (by rw [g.g.n]; exact hi); rw [g.ng] at this; exact this, fun i hi => by have := g.h.top i (by rw [g.h.n]; exact hi); rw [g.nh] at this; exact this⟩
set_option maxRecDepth 10000 in
set_option maxHeartbeats 3200000 in
theorem protectHost_any (v : NV) (D : ND) (a was y : Int) (Y : Nat → Prop) (w : World) (h : NAt Y w v D) (hY : ∀ x, Y x → x < w.heap.size) :
    Calls Try.prog 123 #[v.val D, .int .i64 a, .int .i64 was, .int .i64 y] w (GivesN (hsOut D a was y) w) := by
  have hA1 : Blw w (w.alloc (.cells #[.slice v.g.a1 D.G.n v.g.c1, .slice v.g.a2 D.G.D.n v.g.c2, .slice v.h.a1 D.H.n v.h.c1, .slice v.h.a2 D.H.D.n v.h.c2] 60)) := (Blw.refl _).alloc _
  have hA2 : Blw (w.alloc (.cells #[.slice v.g.a1 D.G.n v.g.c1, .slice v.g.a2 D.G.D.n v.g.c2, .slice v.h.a1 D.H.n v.h.c1, .slice v.h.a2 D.H.D.n v.h.c2] 60)) ((w.alloc (.cells #[.slice v.g.a1 D.G.n v.g.c1, .slice v.g.a2 D.G.D.n v.g.c2, .slice v.h.a1 D.H.n v.h.c1, .slice v.h.a2 D.H.D.n v.h.c2] 60)).alloc (.cells #[.slice none 0 0, .slice none 0 0, .slice none 0 0, .slice none 0 0] 60)) := (Blw.refl _).alloc _
  have rz := box4 (w.alloc (.cells #[.slice v.g.a1 D.G.n v.g.c1, .slice v.g.a2 D.G.D.n v.g.c2, .slice v.h.a1 D.H.n v.h.c1, .slice v.h.a2 D.H.D.n v.h.c2] 60)) (.slice none 0 0) (.slice none 0 0) (.slice none 0 0) (.slice none 0 0) 60
  rw [World.size_alloc] at rz
  have HZ : Hid (Row ((w.alloc (.cells #[.slice v.g.a1 D.G.n v.g.c1, .slice v.g.a2 D.G.D.n v.g.c2, .slice v.h.a1 D.H.n v.h.c1, .slice v.h.a2 D.H.D.n v.h.c2] 60)).alloc (.cells #[.slice none 0 0, .slice none 0 0, .slice none 0 0, .slice none 0 0] 60)) (w.heap.size + 1) 4 (fun i => if i = 0 then .slice none 0 0 else if i = 1 then .slice none 0 0 else if i = 2 then .slice none 0 0 else .slice none 0 0)) := rz
  have HR : Hid (Row ((w.alloc (.cells #[.slice v.g.a1 D.G.n v.g.c1, .slice v.g.a2 D.G.D.n v.g.c2, .slice v.h.a1 D.H.n v.h.c1, .slice v.h.a2 D.H.D.n v.h.c2] 60)).alloc (.cells #[.slice none 0 0, .slice none 0 0, .slice none 0 0, .slice none 0 0] 60)) w.heap.size 4 (nb v D)) := (box4 w _ _ _ _ 60).blw hA2
  have HN : Hid (NAt Y ((w.alloc (.cells #[.slice v.g.a1 D.G.n v.g.c1, .slice v.g.a2 D.G.D.n v.g.c2, .slice v.h.a1 D.H.n v.h.c1, .slice v.h.a2 D.H.D.n v.h.c2] 60)).alloc (.cells #[.slice none 0 0, .slice none 0 0, .slice none 0 0, .slice none 0 0] 60)) v D) := h.blw (hA1.trans hA2)
  have HB : Hid (Blw w ((w.alloc (.cells #[.slice v.g.a1 D.G.n v.g.c1, .slice v.g.a2 D.G.D.n v.g.c2, .slice v.h.a1 D.H.n v.h.c1, .slice v.h.a2 D.H.D.n v.h.c2] 60)).alloc (.cells #[.slice none 0 0, .slice none 0 0, .slice none 0 0, .slice none 0 0] 60))) := hA1.trans hA2
  have HSZ : Hid (w.heap.size + 1 + 1 = ((w.alloc (.cells #[.slice v.g.a1 D.G.n v.g.c1, .slice v.g.a2 D.G.D.n v.g.c2, .slice v.h.a1 D.H.n v.h.c1, .slice v.h.a2 D.H.D.n v.h.c2] 60)).alloc (.cells #[.slice none 0 0, .slice none 0 0, .slice none 0 0, .slice none 0 0] 60)).heap.size) := by show _ = _; simp
  have HYY : Hid (∀ x, Y x → x < ((w.alloc (.cells #[.slice v.g.a1 D.G.n v.g.c1, .slice v.g.a2 D.G.D.n v.g.c2, .slice v.h.a1 D.H.n v.h.c1, .slice v.h.a2 D.H.D.n v.h.c2] 60)).alloc (.cells #[.slice none 0 0, .slice none 0 0, .slice none 0 0, .slice none 0 0] 60)).heap.size) := fun x hx => by have := hY x hx; simp; omega
  clear hA1 hA2 rz h hY
  go_enter Try.func123, Try.ntmps123
  obtain ⟨p0, p1, p2, p3⟩ := get4 HR.out
  go_wp2_with fail
  clear p0 p1 p2 p3
  generalize ((w.alloc (.cells #[.slice v.g.a1 D.G.n v.g.c1, .slice v.g.a2 D.G.D.n v.g.c2, .slice v.h.a1 D.H.n v.h.c1, .slice v.h.a2 D.H.D.n v.h.c2] 60)).alloc (.cells #[.slice none 0 0, .slice none 0 0, .slice none 0 0, .slice none 0 0] 60)) = w0 at *
  refine (holdNest_any v D Y _ HN.out HYY.out).mono ?_
  rintro e w1 ⟨h1, hb1⟩
  have HS : Hid (w.heap.size + 1 + 1 ≤ w1.heap.size) := by have := HSZ.out; have := hb1.size; show _ ≤ _; omega
  rcases h1 with ⟨z1, z2, hg, rfl, hrow, hrow2, hlo, hlo2⟩ | ⟨hg, rfl⟩
  case inr =>
    have hA : Blw w1 (w1.alloc (.cells zero10 138)) := (Blw.refl _).alloc _
    replace HZ : Hid (Row (w1.alloc (.cells zero10 138)) (w.heap.size + 1) 4 (fun i => if i = 0 then .slice none 0 0 else if i = 1 then .slice none 0 0 else if i = 2 then .slice none 0 0 else .slice none 0 0)) := (HZ.out.blw hb1).blw hA
    replace HB : Hid (Blw w (w1.alloc (.cells zero10 138))) := (HB.out.trans hb1).trans hA
    have HG : Hid (¬ D.Good) := hg
    clear hA hb1 hg HN HYY HSZ HR HS
    go_upto_region 2 with fail
    generalize (w1.alloc (.cells zero10 138)) = w2 at *
    have HNG : Hid (¬ hsOK D a was) := fun q => HG.out q.1
    obtain ⟨t0, t1, t2, t3⟩ := get4 HZ.out
    have f0 := HZ.out.frozen 0; have f1 := HZ.out.frozen 1; have f2 := HZ.out.frozen 2; have f3 := HZ.out.frozen 3
    clear HZ
    go_wp2
    exact bodyPost_ret (v := .tuple #[NV.zero.val ND.zero, .bool false]) (by simp [results, Try.results123, go_sem, t0, t1, t2, t3]) rfl (zero_givesN (z := w.heap.size + 1) (by omega) (Or.inr ⟨HNG.out, rfl, rfl⟩) HB.out)
  have hA : Blw w1 (w1.alloc (.cells (held10 D.G.c D.H.c z1 4 z2 4) 138)) := (Blw.refl _).alloc _
  have HG : Hid D.Good := hg
  have H10 : Hid (Row (w1.alloc (.cells (held10 D.G.c D.H.c z1 4 z2 4) 138)) w1.heap.size 10 (hten D.G.c D.H.c (.slice (some ⟨z1, 0, none⟩) 4 4) (.slice (some ⟨z2, 0, none⟩) 4 4))) := box_hh w1 D.G.c D.H.c z1 z2
  have HGL : Hid (Row (w1.alloc (.cells (held10 D.G.c D.H.c z1 4 z2 4) 138)) z1 (4 * 8) (lc D.G.D.p D.G.D.m)) := hrow.blw hA
  have HHL : Hid (Row (w1.alloc (.cells (held10 D.G.c D.H.c z1 4 z2 4) 138)) z2 (4 * 8) (lc D.H.D.p D.H.D.m)) := hrow2.blw hA
  replace HZ : Hid (Row (w1.alloc (.cells (held10 D.G.c D.H.c z1 4 z2 4) 138)) (w.heap.size + 1) 4 (fun i => if i = 0 then .slice none 0 0 else if i = 1 then .slice none 0 0 else if i = 2 then .slice none 0 0 else .slice none 0 0)) := (HZ.out.blw hb1).blw hA
  have hz2 := hrow2.lt
  have HZZ : Hid (w.heap.size + 1 + 1 ≤ z1 ∧ z1 < z2 ∧ z2 < w1.heap.size) := ⟨by have := HSZ.out; omega, hlo2, hz2⟩
  replace HB : Hid (Blw w (w1.alloc (.cells (held10 D.G.c D.H.c z1 4 z2 4) 138))) := (HB.out.trans hb1).trans hA
  clear hA hb1 hg HN HYY HSZ HR HS hrow hrow2 hlo hlo2 hz2
  go_upto_region 2 with fail
  generalize (w1.alloc (.cells (held10 D.G.c D.H.c z1 4 z2 4) 138)) = w2 at *
  generalize w1.heap.size = zb at *
  go_wp2_with fail
  refine (isPage_any a _).mono ?_
  rintro e w2 ⟨r, rfl, hr, rfl⟩
  have HT : Hid (r = true ↔ pgOK a) := hr
  clear hr
  cases r
  · have HNG : Hid (¬ hsOK D a was) := fun q => by have := HT.out.2 q.2.1; simp at this
    obtain ⟨t0, t1, t2, t3⟩ := get4 HZ.out
    have f0 := HZ.out.frozen 0; have f1 := HZ.out.frozen 1; have f2 := HZ.out.frozen 2; have f3 := HZ.out.frozen 3
    clear HZ
    go_wp2
    exact bodyPost_ret (v := .tuple #[NV.zero.val ND.zero, .bool false]) (by simp [results, Try.results123, go_sem, t0, t1, t2, t3]) rfl (zero_givesN (z := w.heap.size + 1) (by omega) (Or.inr ⟨HNG.out, rfl, rfl⟩) HB.out)
  have H1 : Hid (pgOK a) := HT.out.1 (by first | rfl | trivial)
  clear HT
  obtain ⟨x, hx, hx16⟩ : ∃ x : Nat, a = x ∧ x < 16 := ⟨a.toNat, by have := H1.out; unfold pgOK at this; omega, by have := H1.out; unfold pgOK at this; omega⟩
  subst hx
  go_wp2_with fail
  refine (protectH_any D.G.c (.slice (some ⟨z1, 0, none⟩) 4 4) D.H.c z2 D.H.D.p D.H.D.m zb x was y _ (ng_tops HG.out).2 hx16 (by have := HZZ.out; omega) H10.out HHL.out).mono ?_
  rintro e w3 ho
  rcases ho with ⟨hd, q, hq, rfl, r10, rl, hm⟩ | ⟨hd, rfl, hb3⟩
  case inr =>
    replace HZ : Hid (Row w3 (w.heap.size + 1) 4 (fun i => if i = 0 then .slice none 0 0 else if i = 1 then .slice none 0 0 else if i = 2 then .slice none 0 0 else .slice none 0 0)) := HZ.out.blw hb3
    replace HB : Hid (Blw w w3) := HB.out.trans hb3
    have HD : Hid (¬ gM D.H x = was) := hd
    clear hb3 hd H10 HGL HHL
    have HNG : Hid (¬ hsOK D (x : Int) was) := fun q => HD.out (by have := q.2.2; rw [Int.toNat_natCast] at this; exact this)
    obtain ⟨t0, t1, t2, t3⟩ := get4 HZ.out
    have f0 := HZ.out.frozen 0; have f1 := HZ.out.frozen 1; have f2 := HZ.out.frozen 2; have f3 := HZ.out.frozen 3
    clear HZ
    go_wp2
    exact bodyPost_ret (v := .tuple #[NV.zero.val ND.zero, .bool false]) (by simp [results, Try.results123, go_sem, t0, t1, t2, t3]) rfl (zero_givesN (z := w.heap.size + 1) (by omega) (Or.inr ⟨HNG.out, rfl, rfl⟩) HB.out)
  have HOK : Hid (hsOut D (x : Int) was y ⟨⟨4, D.G.c, ⟨4, fun _ => 4, D.G.D.p, D.G.D.m⟩⟩, ⟨4, topsOf D.H.c (x / 4) q (upd2 D.H.D.p q (x % 4) (gP D.H x) q) (upd2 D.H.D.m q (x % 4) y q), ⟨4, fun _ => 4, upd2 D.H.D.p q (x % 4) (gP D.H x), upd2 D.H.D.m q (x % 4) y⟩⟩⟩ true) :=
    Or.inl ⟨⟨HG.out, H1.out, by rw [Int.toNat_natCast]; exact hd⟩, ⟨q, by rw [Int.toNat_natCast, HG.out.nh]; exact hq, by rw [Int.toNat_natCast, own4_eq HG.out.ng, chB_eq HG.out.nh]⟩, rfl⟩
  have HR10 : Hid (Row w3 zb 10 (hten D.G.c (topsOf D.H.c (x / 4) q (upd2 D.H.D.p q (x % 4) (gP D.H x) q) (upd2 D.H.D.m q (x % 4) y q)) (.slice (some ⟨z1, 0, none⟩) 4 4) (.slice (some ⟨z2, 0, none⟩) 4 4))) := r10
  have HRL : Hid (Row w3 z2 (4 * 8) (lc (upd2 D.H.D.p q (x % 4) (gP D.H x)) (upd2 D.H.D.m q (x % 4) y))) := rl
  have hzz := HZZ.out
  replace HGL : Hid (Row w3 z1 (4 * 8) (lc D.G.D.p D.G.D.m)) := HGL.out.mod hm (by omega)
  replace HZ : Hid (Row w3 (w.heap.size + 1) 4 (fun i => if i = 0 then .slice none 0 0 else if i = 1 then .slice none 0 0 else if i = 2 then .slice none 0 0 else .slice none 0 0)) := HZ.out.mod hm (by omega)
  replace HB : Hid (Blw w w3) := Mod.blw HB.out hm (fun i hi => by omega)
  clear r10 rl hm hd hq H10 HHL hzz
  generalize (topsOf D.H.c (x / 4) q (upd2 D.H.D.p q (x % 4) (gP D.H x) q) (upd2 D.H.D.m q (x % 4) y q)) = c2 at *
  generalize upd2 D.H.D.p q (x % 4) (gP D.H x) = p2 at *
  generalize upd2 D.H.D.m q (x % 4) y = m2 at *
  obtain ⟨p0, p1, p2, p3, p4, p5, p6, p7, p8, p9⟩ := get10 HR10.out
  go_wp2_with fail
  clear p0 p1 p2 p3 p4 p5 p6 p7 p8 p9
  refine (giveOutN_any D.G.c c2 z1 z2 D.G.D.p D.G.D.m p2 m2 _ HGL.out HRL.out).mono ?_
  rintro e w4 ⟨v4, rfl, own4', hb4⟩
  have hr2 := HZ.out.blw hb4
  have hs4 := hb4.size
  have hlt := HZ.out.lt
  have FIN : Hid _ := pass_givesN (out := hsOut D (x : Int) was y) (w := w) (W := w4) (z := w.heap.size + 1) (v := v4) (r := true) (by omega) HOK.out ⟨small4 (by omega), small4 (by omega)⟩ (HB.out.trans hb4) own4' (fun x hx => ⟨by have := HB.out.size; omega, by omega, hx.2⟩)
  obtain ⟨t0, t1, t2, t3⟩ := get4 hr2
  have f0 := hr2.frozen 0; have f1 := hr2.frozen 1; have f2 := hr2.frozen 2; have f3 := hr2.frozen 3
  clear HR10 HRL HGL HZ HB hr2 hs4 hlt own4' hb4 HOK
  go_wp2
  exact bodyPost_ret (v := .tuple #[v4.val ⟨⟨4, D.G.c, ⟨4, fun _ => 4, D.G.D.p, D.G.D.m⟩⟩, ⟨4, c2, ⟨4, fun _ => 4, p2, m2⟩⟩⟩, .bool true]) (by simp [results, Try.results123, go_sem, t0, t1, t2, t3]) rfl FIN.out
set_option maxRecDepth 10000 in
set_option maxHeartbeats 1600000 in
theorem specWatch_any (v : NV) (D : ND) (a : Int) (Y : Nat → Prop) (w : World) (hg : D.G.n ≤ 1048576) (hh : D.H.n ≤ 1048576) (h : NAt Y w v D) :
    Calls Try.prog 51 #[v.val D, .int .i64 a] w (GivesN (hsOut D a 3 1) w) := by
  have hA1 : Blw w (w.alloc (.cells #[.slice v.g.a1 D.G.n v.g.c1, .slice v.g.a2 D.G.D.n v.g.c2, .slice v.h.a1 D.H.n v.h.c1, .slice v.h.a2 D.H.D.n v.h.c2] 60)) := (Blw.refl _).alloc _
  have hA2 : Blw (w.alloc (.cells #[.slice v.g.a1 D.G.n v.g.c1, .slice v.g.a2 D.G.D.n v.g.c2, .slice v.h.a1 D.H.n v.h.c1, .slice v.h.a2 D.H.D.n v.h.c2] 60)) ((w.alloc (.cells #[.slice v.g.a1 D.G.n v.g.c1, .slice v.g.a2 D.G.D.n v.g.c2, .slice v.h.a1 D.H.n v.h.c1, .slice v.h.a2 D.H.D.n v.h.c2] 60)).alloc (.cells #[.slice none 0 0, .slice none 0 0, .slice none 0 0, .slice none 0 0] 60)) := (Blw.refl _).alloc _
  have rz := box4 (w.alloc (.cells #[.slice v.g.a1 D.G.n v.g.c1, .slice v.g.a2 D.G.D.n v.g.c2, .slice v.h.a1 D.H.n v.h.c1, .slice v.h.a2 D.H.D.n v.h.c2] 60)) (.slice none 0 0) (.slice none 0 0) (.slice none 0 0) (.slice none 0 0) 60
  rw [World.size_alloc] at rz
  have HZ : Hid (Row ((w.alloc (.cells #[.slice v.g.a1 D.G.n v.g.c1, .slice v.g.a2 D.G.D.n v.g.c2, .slice v.h.a1 D.H.n v.h.c1, .slice v.h.a2 D.H.D.n v.h.c2] 60)).alloc (.cells #[.slice none 0 0, .slice none 0 0, .slice none 0 0, .slice none 0 0] 60)) (w.heap.size + 1) 4 (fun i => if i = 0 then .slice none 0 0 else if i = 1 then .slice none 0 0 else if i = 2 then .slice none 0 0 else .slice none 0 0)) := rz
  have HR : Hid (Row ((w.alloc (.cells #[.slice v.g.a1 D.G.n v.g.c1, .slice v.g.a2 D.G.D.n v.g.c2, .slice v.h.a1 D.H.n v.h.c1, .slice v.h.a2 D.H.D.n v.h.c2] 60)).alloc (.cells #[.slice none 0 0, .slice none 0 0, .slice none 0 0, .slice none 0 0] 60)) w.heap.size 4 (nb v D)) := (box4 w _ _ _ _ 60).blw hA2
  have HN : Hid (NAt Y ((w.alloc (.cells #[.slice v.g.a1 D.G.n v.g.c1, .slice v.g.a2 D.G.D.n v.g.c2, .slice v.h.a1 D.H.n v.h.c1, .slice v.h.a2 D.H.D.n v.h.c2] 60)).alloc (.cells #[.slice none 0 0, .slice none 0 0, .slice none 0 0, .slice none 0 0] 60)) v D) := h.blw (hA1.trans hA2)
  have HB : Hid (Blw w ((w.alloc (.cells #[.slice v.g.a1 D.G.n v.g.c1, .slice v.g.a2 D.G.D.n v.g.c2, .slice v.h.a1 D.H.n v.h.c1, .slice v.h.a2 D.H.D.n v.h.c2] 60)).alloc (.cells #[.slice none 0 0, .slice none 0 0, .slice none 0 0, .slice none 0 0] 60))) := hA1.trans hA2
  clear hA1 hA2 rz h
  go_enter Try.func51, Try.ntmps51
  obtain ⟨p0, p1, p2, p3⟩ := get4 HR.out
  go_wp2_with fail
  clear p0 p1 p2 p3
  generalize ((w.alloc (.cells #[.slice v.g.a1 D.G.n v.g.c1, .slice v.g.a2 D.G.D.n v.g.c2, .slice v.h.a1 D.H.n v.h.c1, .slice v.h.a2 D.H.D.n v.h.c2] 60)).alloc (.cells #[.slice none 0 0, .slice none 0 0, .slice none 0 0, .slice none 0 0] 60)) = w0 at *
  refine (l8Set_any v D a 3 1 Y _ (by omega) (by unfold mayOK; omega) hg hh HN.out).mono ?_
  rintro e w1 ⟨u, R, r, rfl, ho, hs, own, hb1⟩
  have hr2 := HZ.out.blw hb1
  have hs4 := hb1.size
  have hlt := HZ.out.lt
  have FIN : Hid _ := pass_givesN (out := hsOut D a 3 1) (w := w) (W := w1) (z := w.heap.size + 1) (v := u) (R := R) (r := r) (by omega) ho hs (HB.out.trans hb1) own (fun x hx => ⟨by have := HB.out.size; omega, by omega, hx.2⟩)
  obtain ⟨t0, t1, t2, t3⟩ := get4 hr2
  have f0 := hr2.frozen 0; have f1 := hr2.frozen 1; have f2 := hr2.frozen 2; have f3 := hr2.frozen 3
  clear HZ HB hr2 hs4 hlt own hb1 HR HN ho hs
  go_wp2
  exact bodyPost_ret (v := .tuple #[u.val R, .bool r]) (by simp [results, Try.results51, go_sem, t0, t1, t2, t3]) rfl FIN.out
set_option maxRecDepth 10000 in
set_option maxHeartbeats 1600000 in
theorem specLet_any (v : NV) (D : ND) (a : Int) (Y : Nat → Prop) (w : World) (hg : D.G.n ≤ 1048576) (hh : D.H.n ≤ 1048576) (h : NAt Y w v D) :
    Calls Try.prog 58 #[v.val D, .int .i64 a] w (GivesN (hsOut D a 1 3) w) := by
  have hA1 : Blw w (w.alloc (.cells #[.slice v.g.a1 D.G.n v.g.c1, .slice v.g.a2 D.G.D.n v.g.c2, .slice v.h.a1 D.H.n v.h.c1, .slice v.h.a2 D.H.D.n v.h.c2] 60)) := (Blw.refl _).alloc _
  have hA2 : Blw (w.alloc (.cells #[.slice v.g.a1 D.G.n v.g.c1, .slice v.g.a2 D.G.D.n v.g.c2, .slice v.h.a1 D.H.n v.h.c1, .slice v.h.a2 D.H.D.n v.h.c2] 60)) ((w.alloc (.cells #[.slice v.g.a1 D.G.n v.g.c1, .slice v.g.a2 D.G.D.n v.g.c2, .slice v.h.a1 D.H.n v.h.c1, .slice v.h.a2 D.H.D.n v.h.c2] 60)).alloc (.cells #[.slice none 0 0, .slice none 0 0, .slice none 0 0, .slice none 0 0] 60)) := (Blw.refl _).alloc _
  have rz := box4 (w.alloc (.cells #[.slice v.g.a1 D.G.n v.g.c1, .slice v.g.a2 D.G.D.n v.g.c2, .slice v.h.a1 D.H.n v.h.c1, .slice v.h.a2 D.H.D.n v.h.c2] 60)) (.slice none 0 0) (.slice none 0 0) (.slice none 0 0) (.slice none 0 0) 60
  rw [World.size_alloc] at rz
  have HZ : Hid (Row ((w.alloc (.cells #[.slice v.g.a1 D.G.n v.g.c1, .slice v.g.a2 D.G.D.n v.g.c2, .slice v.h.a1 D.H.n v.h.c1, .slice v.h.a2 D.H.D.n v.h.c2] 60)).alloc (.cells #[.slice none 0 0, .slice none 0 0, .slice none 0 0, .slice none 0 0] 60)) (w.heap.size + 1) 4 (fun i => if i = 0 then .slice none 0 0 else if i = 1 then .slice none 0 0 else if i = 2 then .slice none 0 0 else .slice none 0 0)) := rz
  have HR : Hid (Row ((w.alloc (.cells #[.slice v.g.a1 D.G.n v.g.c1, .slice v.g.a2 D.G.D.n v.g.c2, .slice v.h.a1 D.H.n v.h.c1, .slice v.h.a2 D.H.D.n v.h.c2] 60)).alloc (.cells #[.slice none 0 0, .slice none 0 0, .slice none 0 0, .slice none 0 0] 60)) w.heap.size 4 (nb v D)) := (box4 w _ _ _ _ 60).blw hA2
  have HN : Hid (NAt Y ((w.alloc (.cells #[.slice v.g.a1 D.G.n v.g.c1, .slice v.g.a2 D.G.D.n v.g.c2, .slice v.h.a1 D.H.n v.h.c1, .slice v.h.a2 D.H.D.n v.h.c2] 60)).alloc (.cells #[.slice none 0 0, .slice none 0 0, .slice none 0 0, .slice none 0 0] 60)) v D) := h.blw (hA1.trans hA2)
  have HB : Hid (Blw w ((w.alloc (.cells #[.slice v.g.a1 D.G.n v.g.c1, .slice v.g.a2 D.G.D.n v.g.c2, .slice v.h.a1 D.H.n v.h.c1, .slice v.h.a2 D.H.D.n v.h.c2] 60)).alloc (.cells #[.slice none 0 0, .slice none 0 0, .slice none 0 0, .slice none 0 0] 60))) := hA1.trans hA2
  clear hA1 hA2 rz h
  go_enter Try.func58, Try.ntmps58
  obtain ⟨p0, p1, p2, p3⟩ := get4 HR.out
  go_wp2_with fail
  clear p0 p1 p2 p3
  generalize ((w.alloc (.cells #[.slice v.g.a1 D.G.n v.g.c1, .slice v.g.a2 D.G.D.n v.g.c2, .slice v.h.a1 D.H.n v.h.c1, .slice v.h.a2 D.H.D.n v.h.c2] 60)).alloc (.cells #[.slice none 0 0, .slice none 0 0, .slice none 0 0, .slice none 0 0] 60)) = w0 at *
  refine (l8Set_any v D a 1 3 Y _ (by omega) (by unfold mayOK; omega) hg hh HN.out).mono ?_
  rintro e w1 ⟨u, R, r, rfl, ho, hs, own, hb1⟩
  have hr2 := HZ.out.blw hb1
  have hs4 := hb1.size
  have hlt := HZ.out.lt
  have FIN : Hid _ := pass_givesN (out := hsOut D a 1 3) (w := w) (W := w1) (z := w.heap.size + 1) (v := u) (R := R) (r := r) (by omega) ho hs (HB.out.trans hb1) own (fun x hx => ⟨by have := HB.out.size; omega, by omega, hx.2⟩)
  obtain ⟨t0, t1, t2, t3⟩ := get4 hr2
  have f0 := hr2.frozen 0; have f1 := hr2.frozen 1; have f2 := hr2.frozen 2; have f3 := hr2.frozen 3
  clear HZ HB hr2 hs4 hlt own hb1 HR HN ho hs
  go_wp2
  exact bodyPost_ret (v := .tuple #[u.val R, .bool r]) (by simp [results, Try.results58, go_sem, t0, t1, t2, t3]) rfl FIN.out
set_option maxRecDepth 10000 in
set_option maxHeartbeats 1600000 in
theorem implWatch_any (v : NV) (D : ND) (a : Int) (Y : Nat → Prop) (w : World) (h : NAt Y w v D) (hY : ∀ x, Y x → x < w.heap.size) :
    Calls Try.prog 50 #[v.val D, .int .i64 a] w (GivesN (hsOut D a 3 1) w) := by
  have hA1 : Blw w (w.alloc (.cells #[.slice v.g.a1 D.G.n v.g.c1, .slice v.g.a2 D.G.D.n v.g.c2, .slice v.h.a1 D.H.n v.h.c1, .slice v.h.a2 D.H.D.n v.h.c2] 60)) := (Blw.refl _).alloc _
  have hA2 : Blw (w.alloc (.cells #[.slice v.g.a1 D.G.n v.g.c1, .slice v.g.a2 D.G.D.n v.g.c2, .slice v.h.a1 D.H.n v.h.c1, .slice v.h.a2 D.H.D.n v.h.c2] 60)) ((w.alloc (.cells #[.slice v.g.a1 D.G.n v.g.c1, .slice v.g.a2 D.G.D.n v.g.c2, .slice v.h.a1 D.H.n v.h.c1, .slice v.h.a2 D.H.D.n v.h.c2] 60)).alloc (.cells #[.slice none 0 0, .slice none 0 0, .slice none 0 0, .slice none 0 0] 60)) := (Blw.refl _).alloc _
  have rz := box4 (w.alloc (.cells #[.slice v.g.a1 D.G.n v.g.c1, .slice v.g.a2 D.G.D.n v.g.c2, .slice v.h.a1 D.H.n v.h.c1, .slice v.h.a2 D.H.D.n v.h.c2] 60)) (.slice none 0 0) (.slice none 0 0) (.slice none 0 0) (.slice none 0 0) 60
  rw [World.size_alloc] at rz
  have HZ : Hid (Row ((w.alloc (.cells #[.slice v.g.a1 D.G.n v.g.c1, .slice v.g.a2 D.G.D.n v.g.c2, .slice v.h.a1 D.H.n v.h.c1, .slice v.h.a2 D.H.D.n v.h.c2] 60)).alloc (.cells #[.slice none 0 0, .slice none 0 0, .slice none 0 0, .slice none 0 0] 60)) (w.heap.size + 1) 4 (fun i => if i = 0 then .slice none 0 0 else if i = 1 then .slice none 0 0 else if i = 2 then .slice none 0 0 else .slice none 0 0)) := rz
  have HR : Hid (Row ((w.alloc (.cells #[.slice v.g.a1 D.G.n v.g.c1, .slice v.g.a2 D.G.D.n v.g.c2, .slice v.h.a1 D.H.n v.h.c1, .slice v.h.a2 D.H.D.n v.h.c2] 60)).alloc (.cells #[.slice none 0 0, .slice none 0 0, .slice none 0 0, .slice none 0 0] 60)) w.heap.size 4 (nb v D)) := (box4 w _ _ _ _ 60).blw hA2
  have HN : Hid (NAt Y ((w.alloc (.cells #[.slice v.g.a1 D.G.n v.g.c1, .slice v.g.a2 D.G.D.n v.g.c2, .slice v.h.a1 D.H.n v.h.c1, .slice v.h.a2 D.H.D.n v.h.c2] 60)).alloc (.cells #[.slice none 0 0, .slice none 0 0, .slice none 0 0, .slice none 0 0] 60)) v D) := h.blw (hA1.trans hA2)
  have HB : Hid (Blw w ((w.alloc (.cells #[.slice v.g.a1 D.G.n v.g.c1, .slice v.g.a2 D.G.D.n v.g.c2, .slice v.h.a1 D.H.n v.h.c1, .slice v.h.a2 D.H.D.n v.h.c2] 60)).alloc (.cells #[.slice none 0 0, .slice none 0 0, .slice none 0 0, .slice none 0 0] 60))) := hA1.trans hA2
  have HYY : Hid (∀ x, Y x → x < ((w.alloc (.cells #[.slice v.g.a1 D.G.n v.g.c1, .slice v.g.a2 D.G.D.n v.g.c2, .slice v.h.a1 D.H.n v.h.c1, .slice v.h.a2 D.H.D.n v.h.c2] 60)).alloc (.cells #[.slice none 0 0, .slice none 0 0, .slice none 0 0, .slice none 0 0] 60)).heap.size) := fun x hx => by have := hY x hx; simp; omega
  clear hA1 hA2 rz h
  go_enter Try.func50, Try.ntmps50
  obtain ⟨p0, p1, p2, p3⟩ := get4 HR.out
  go_wp2_with fail
  clear p0 p1 p2 p3
  generalize ((w.alloc (.cells #[.slice v.g.a1 D.G.n v.g.c1, .slice v.g.a2 D.G.D.n v.g.c2, .slice v.h.a1 D.H.n v.h.c1, .slice v.h.a2 D.H.D.n v.h.c2] 60)).alloc (.cells #[.slice none 0 0, .slice none 0 0, .slice none 0 0, .slice none 0 0] 60)) = w0 at *
  refine (protectHost_any v D a 3 1 Y _ HN.out HYY.out).mono ?_
  rintro e w1 ⟨u, R, r, rfl, ho, hs, own, hb1⟩
  have hr2 := HZ.out.blw hb1
  have hs4 := hb1.size
  have hlt := HZ.out.lt
  have FIN : Hid _ := pass_givesN (out := hsOut D a 3 1) (w := w) (W := w1) (z := w.heap.size + 1) (v := u) (R := R) (r := r) (by omega) ho hs (HB.out.trans hb1) own (fun x hx => ⟨by have := HB.out.size; omega, by omega, hx.2⟩)
  obtain ⟨t0, t1, t2, t3⟩ := get4 hr2
  have f0 := hr2.frozen 0; have f1 := hr2.frozen 1; have f2 := hr2.frozen 2; have f3 := hr2.frozen 3
  clear HZ HB hr2 hs4 hlt own hb1 HR HN ho hs
  go_wp2
  exact bodyPost_ret (v := .tuple #[u.val R, .bool r]) (by simp [results, Try.results50, go_sem, t0, t1, t2, t3]) rfl FIN.out
set_option maxRecDepth 10000 in
set_option maxHeartbeats 1600000 in
theorem implLet_any (v : NV) (D : ND) (a : Int) (Y : Nat → Prop) (w : World) (h : NAt Y w v D) (hY : ∀ x, Y x → x < w.heap.size) :
    Calls Try.prog 52 #[v.val D, .int .i64 a] w (GivesN (hsOut D a 1 3) w) := by
  have hA1 : Blw w (w.alloc (.cells #[.slice v.g.a1 D.G.n v.g.c1, .slice v.g.a2 D.G.D.n v.g.c2, .slice v.h.a1 D.H.n v.h.c1, .slice v.h.a2 D.H.D.n v.h.c2] 60)) := (Blw.refl _).alloc _
  have hA2 : Blw (w.alloc (.cells #[.slice v.g.a1 D.G.n v.g.c1, .slice v.g.a2 D.G.D.n v.g.c2, .slice v.h.a1 D.H.n v.h.c1, .slice v.h.a2 D.H.D.n v.h.c2] 60)) ((w.alloc (.cells #[.slice v.g.a1 D.G.n v.g.c1, .slice v.g.a2 D.G.D.n v.g.c2, .slice v.h.a1 D.H.n v.h.c1, .slice v.h.a2 D.H.D.n v.h.c2] 60)).alloc (.cells #[.slice none 0 0, .slice none 0 0, .slice none 0 0, .slice none 0 0] 60)) := (Blw.refl _).alloc _
  have rz := box4 (w.alloc (.cells #[.slice v.g.a1 D.G.n v.g.c1, .slice v.g.a2 D.G.D.n v.g.c2, .slice v.h.a1 D.H.n v.h.c1, .slice v.h.a2 D.H.D.n v.h.c2] 60)) (.slice none 0 0) (.slice none 0 0) (.slice none 0 0) (.slice none 0 0) 60
  rw [World.size_alloc] at rz
  have HZ : Hid (Row ((w.alloc (.cells #[.slice v.g.a1 D.G.n v.g.c1, .slice v.g.a2 D.G.D.n v.g.c2, .slice v.h.a1 D.H.n v.h.c1, .slice v.h.a2 D.H.D.n v.h.c2] 60)).alloc (.cells #[.slice none 0 0, .slice none 0 0, .slice none 0 0, .slice none 0 0] 60)) (w.heap.size + 1) 4 (fun i => if i = 0 then .slice none 0 0 else if i = 1 then .slice none 0 0 else if i = 2 then .slice none 0 0 else .slice none 0 0)) := rz
  have HR : Hid (Row ((w.alloc (.cells #[.slice v.g.a1 D.G.n v.g.c1, .slice v.g.a2 D.G.D.n v.g.c2, .slice v.h.a1 D.H.n v.h.c1, .slice v.h.a2 D.H.D.n v.h.c2] 60)).alloc (.cells #[.slice none 0 0, .slice none 0 0, .slice none 0 0, .slice none 0 0] 60)) w.heap.size 4 (nb v D)) := (box4 w _ _ _ _ 60).blw hA2
  have HN : Hid (NAt Y ((w.alloc (.cells #[.slice v.g.a1 D.G.n v.g.c1, .slice v.g.a2 D.G.D.n v.g.c2, .slice v.h.a1 D.H.n v.h.c1, .slice v.h.a2 D.H.D.n v.h.c2] 60)).alloc (.cells #[.slice none 0 0, .slice none 0 0, .slice none 0 0, .slice none 0 0] 60)) v D) := h.blw (hA1.trans hA2)
  have HB : Hid (Blw w ((w.alloc (.cells #[.slice v.g.a1 D.G.n v.g.c1, .slice v.g.a2 D.G.D.n v.g.c2, .slice v.h.a1 D.H.n v.h.c1, .slice v.h.a2 D.H.D.n v.h.c2] 60)).alloc (.cells #[.slice none 0 0, .slice none 0 0, .slice none 0 0, .slice none 0 0] 60))) := hA1.trans hA2
  have HYY : Hid (∀ x, Y x → x < ((w.alloc (.cells #[.slice v.g.a1 D.G.n v.g.c1, .slice v.g.a2 D.G.D.n v.g.c2, .slice v.h.a1 D.H.n v.h.c1, .slice v.h.a2 D.H.D.n v.h.c2] 60)).alloc (.cells #[.slice none 0 0, .slice none 0 0, .slice none 0 0, .slice none 0 0] 60)).heap.size) := fun x hx => by have := hY x hx; simp; omega
  clear hA1 hA2 rz h
  go_enter Try.func52, Try.ntmps52
  obtain ⟨p0, p1, p2, p3⟩ := get4 HR.out
  go_wp2_with fail
  clear p0 p1 p2 p3
  generalize ((w.alloc (.cells #[.slice v.g.a1 D.G.n v.g.c1, .slice v.g.a2 D.G.D.n v.g.c2, .slice v.h.a1 D.H.n v.h.c1, .slice v.h.a2 D.H.D.n v.h.c2] 60)).alloc (.cells #[.slice none 0 0, .slice none 0 0, .slice none 0 0, .slice none 0 0] 60)) = w0 at *
  refine (protectHost_any v D a 1 3 Y _ HN.out HYY.out).mono ?_
  rintro e w1 ⟨u, R, r, rfl, ho, hs, own, hb1⟩
  have hr2 := HZ.out.blw hb1
  have hs4 := hb1.size
  have hlt := HZ.out.lt
  have FIN : Hid _ := pass_givesN (out := hsOut D a 1 3) (w := w) (W := w1) (z := w.heap.size + 1) (v := u) (R := R) (r := r) (by omega) ho hs (HB.out.trans hb1) own (fun x hx => ⟨by have := HB.out.size; omega, by omega, hx.2⟩)
  obtain ⟨t0, t1, t2, t3⟩ := get4 hr2
  have f0 := hr2.frozen 0; have f1 := hr2.frozen 1; have f2 := hr2.frozen 2; have f3 := hr2.frozen 3
  clear HZ HB hr2 hs4 hlt own hb1 HR HN ho hs
  go_wp2
  exact bodyPost_ret (v := .tuple #[u.val R, .bool r]) (by simp [results, Try.results52, go_sem, t0, t1, t2, t3]) rfl FIN.out
end Go.Proofs.Ytjplodenflkghaa
/- What comes in, opened: numbers, bytes, pairs, books. -/
namespace Go.Proofs.Ytjplodenflkghaa
open Go.ChangeShapes Go.WideShapes Go.ChangeAt Go.RowKit Go.Joins Go.Deep
theorem cells86 : Try.prog.cellsOf 224 = 2 := by kernel_rfl
theorem cells3 : Try.prog.cellsOf 3 = 1 := by kernel_rfl
theorem cells5 : Try.prog.cellsOf 5 = 1 := by kernel_rfl
/-- The slice at 'ao' reads as the n bytes f. -/
def BytesAt (Y : Nat → Prop) (w : World) (ao : Option Addr) (n : Nat) (f : Nat → Int) : Prop :=
  n ≤ 9223372036854775807 ∧ ∀ i, i < n → ∃ b o, ao = some ⟨b, o, none⟩ ∧ Y b ∧ w.cell? ⟨b, o + i, none⟩ = some (.int .u8 (f i)) ∧ 0 ≤ f i ∧ f i ≤ 255
theorem BytesAt.blw {Y : Nat → Prop} {w w' : World} {ao : Option Addr} {n : Nat} {f : Nat → Int} (h : BytesAt Y w ao n f) (hb : Blw w w') : BytesAt Y w' ao n f := by
  refine ⟨h.1, fun i hi => ?_⟩
  obtain ⟨b, o, h1, hY, h2, h3⟩ := h.2 i hi
  exact ⟨b, o, h1, hY, hb.cell h2, h3⟩
theorem BytesAt.mod {X Y : Nat → Prop} {w w' : World} {ao : Option Addr} {n : Nat} {f : Nat → Int} (h : BytesAt Y w ao n f) (hb : Mod X w w') (hxy : ∀ k, Y k → ¬ X k) : BytesAt Y w' ao n f := by
  refine ⟨h.1, fun i hi => ?_⟩
  obtain ⟨b, o, h1, hY, h2, h3⟩ := h.2 i hi
  exact ⟨b, o, h1, hY, hb.cell h2 (hxy _ hY), h3⟩
section
variable {H : Type} {enc : TypeId × Value → H} {w : World} {base : Nat} {spare : Nat → Bool} {held : Bool}
theorem addr_of_cell {w : World} {a : Addr} {v : Value} (h : w.cell? a = some v) : a = ⟨a.block, a.off, none⟩ := by
  obtain ⟨b, o, s⟩ := a
  cases s with
  | none => rfl
  | some x =>
    unfold World.cell? at h
    split at h
    · simp at h
    · cases h
theorem open_intsAt {fuel : Nat} {v : Value} {x : DataW H × List MemPlace} (h : DataW.trod enc Try.prog w base spare held fuel 26 [v] = some x) :
    ∃ ao n c f, v = .slice ao n c ∧ IntsAt (fun b => b < w.heap.size) w ao n f := by
  rcases open_ints Try.underlying26 Try.underlying3 cells3 h with ⟨hcs, _⟩ | ⟨a, len, cap, zs, hcs, _, hl, hm, hz, _, hcell, _⟩
  · simp only [List.cons.injEq, and_true] at hcs
    exact ⟨none, 0, 0, fun _ => 0, hcs, by omega, fun i hi => absurd hi (Nat.not_lt_zero _)⟩
  · simp only [List.cons.injEq, and_true] at hcs
    have hzl : len ≤ zs.length := by rw [hz]; split <;> omega
    unfold maxLen at hm
    refine ⟨some a, len, cap, fun i => zs.getD i 0, hcs, by omega, fun i hi => ?_⟩
    have ha := addr_of_cell (by simpa [Addr.add] using hcell 0 (by omega))
    have hc := hcell i (by omega)
    rw [ha, Addr.add_mid] at hc
    exact ⟨a.block, a.off, by rw [← ha], World.block_lt_of_cell? w ⟨a.block, a.off + i, none⟩ hc, hc⟩
theorem open_bytesAt {fuel : Nat} {v : Value} {x : DataW H × List MemPlace} (h : DataW.trod enc Try.prog w base spare held fuel 22 [v] = some x) :
    ∃ ao n c f, v = .slice ao n c ∧ BytesAt (fun b => b < w.heap.size) w ao n f := by
  rcases open_ints Try.underlying22 Try.underlying5 cells5 h with ⟨hcs, _⟩ | ⟨a, len, cap, zs, hcs, _, hl, hm, hz, _, hcell, hwf⟩
  · simp only [List.cons.injEq, and_true] at hcs
    exact ⟨none, 0, 0, fun _ => 0, hcs, by omega, fun i hi => absurd hi (Nat.not_lt_zero _)⟩
  · simp only [List.cons.injEq, and_true] at hcs
    have hzl : len ≤ zs.length := by rw [hz]; split <;> omega
    unfold maxLen at hm
    refine ⟨some a, len, cap, fun i => zs.getD i 0, hcs, by omega, fun i hi => ?_⟩
    have ha := addr_of_cell (by simpa [Addr.add] using hcell 0 (by omega))
    have hc := hcell i (by omega)
    rw [ha, Addr.add_mid] at hc
    have hw := hwf (zs.getD i 0) (by rw [List.getD_eq_getElem?_getD, List.getElem?_eq_getElem (show i < zs.length by omega)]; exact List.getElem_mem _)
    have hw' : ∀ n : Int, (Lit.int .u8 n).wf = true → 0 ≤ n ∧ n ≤ 255 := fun n h => by
      have h1 : (decide ((0 : Int) ≤ n) && decide (n ≤ 255)) = true := h
      simpa using h1
    refine ⟨a.block, a.off, by rw [← ha], World.block_lt_of_cell? w ⟨a.block, a.off + i, none⟩ hc, hc, ?_⟩
    exact hw' _ hw
theorem open_undosAt {fuel : Nat} {v : Value} {x : DataW H × List MemPlace} (h : DataW.trod enc Try.prog w base spare held fuel 219 [v] = some x) :
    ∃ ao n c f g, v = .slice ao n c ∧ UndosAt (fun b => b < w.heap.size) w ao n f g := by
  rcases open_slice_pairs Try.underlying219 Try.underlying224 cells86 rfl rfl cells3 cells3 h with ⟨hcs, _⟩ | ⟨a, len, cap, m, n, V0, V1, D0, D1, P0, P1, hcs, _, hl, hm, hmm, _, hx⟩
  · simp only [List.cons.injEq, and_true] at hcs
    exact ⟨none, 0, 0, fun _ => 0, fun _ => 0, hcs, by omega, fun i hi => absurd hi (Nat.not_lt_zero _)⟩
  · simp only [List.cons.injEq, and_true] at hcs
    have hml : len ≤ m := by rw [hmm]; split <;> omega
    unfold maxLen at hm
    have hb : ∀ i, i < len → ∃ t : Int × Int, V0 i = .int .i64 t.1 ∧ V1 i = .int .i64 t.2 := fun i hi => by
      obtain ⟨_, _, h2, h3⟩ := hx i (by omega)
      obtain ⟨a0, e0, _⟩ := DataW.trod_int Try.underlying3 h2
      obtain ⟨a1, e1, _⟩ := DataW.trod_int Try.underlying3 h3
      exact ⟨(a0, a1), by simpa using e0, by simpa using e1⟩
    obtain ⟨T, hT⟩ := choose_lt (α := Int × Int) (n := len) (p := fun i t => V0 i = .int .i64 t.1 ∧ V1 i = .int .i64 t.2) hb
    refine ⟨some a, len, cap, fun i => (T i).1, fun i => (T i).2, hcs, by omega, fun i hi => ?_⟩
    have ha := addr_of_cell (by simpa [Addr.add] using (hx 0 (by omega)).1)
    obtain ⟨hc0, hc1, -⟩ := hx i (by omega)
    rw [ha, Addr.add_mid] at hc0 hc1
    exact ⟨a.block, a.off, by rw [← ha], World.block_lt_of_cell? w ⟨a.block, a.off + i * 2, none⟩ hc0, by rw [hc0, (hT i hi).1], by rw [Nat.add_assoc, hc1, (hT i hi).2]⟩
theorem cells111 : Try.prog.cellsOf 219 = 1 := by kernel_rfl
theorem cells56 : Try.prog.cellsOf 89 = 2 := by kernel_rfl
theorem choose_lt {α : Type} [Inhabited α] {n : Nat} {p : Nat → α → Prop} (h : ∀ i, i < n → ∃ t, p i t) : ∃ T : Nat → α, ∀ i, i < n → p i (T i) :=
  ⟨fun i => if hi : i < n then Classical.choose (h i hi) else default, fun i hi => by show p i (if hi : i < n then Classical.choose (h i hi) else default); rw [dif_pos hi]; exact Classical.choose_spec (h i hi)⟩
theorem open_leafSS {fuel : Nat} {v : Value} {x : DataW H × List MemPlace} (h : DataW.trod enc Try.prog w base spare held fuel 87 [v] = some x) :
    ∃ ao c D, v = .slice ao D.n c ∧ PSAt (fun b => b < w.heap.size) w ao D := by
  rcases open_slice1 Try.underlying87 cells111 h with ⟨hcs, _⟩ | ⟨a, len, cap, m, n, V, D, Pl, hcs, _, hl, hm, hmm, _, hx⟩
  · simp only [List.cons.injEq, and_true] at hcs
    exact ⟨none, 0, PD.zero, hcs, by show 0 ≤ _; omega, fun i hi => absurd hi (Nat.not_lt_zero _)⟩
  · simp only [List.cons.injEq, and_true] at hcs
    have hml : len ≤ m := by rw [hmm]; split <;> omega
    unfold maxLen at hm
    have hline : ∀ i, i < len → ∃ t : Option Addr × Nat × Nat × (Nat → Int) × (Nat → Int), V i = .slice t.1 t.2.1 t.2.2.1 ∧ UndosAt (fun b => b < w.heap.size) w t.1 t.2.1 t.2.2.2.1 t.2.2.2.2 := fun i hi => by
      obtain ⟨_, h2⟩ := hx i (by omega)
      obtain ⟨ao, n, c, f, g, e, hI⟩ := open_undosAt h2
      exact ⟨(ao, n, c, f, g), e, hI⟩
    obtain ⟨T, hT⟩ := choose_lt (α := Option Addr × Nat × Nat × (Nat → Int) × (Nat → Int)) (n := len) (p := fun i t => V i = .slice t.1 t.2.1 t.2.2.1 ∧ UndosAt (fun b => b < w.heap.size) w t.1 t.2.1 t.2.2.2.1 t.2.2.2.2) hline
    refine ⟨some a, cap, ⟨len, fun i => (T i).2.1, fun i => (T i).2.2.2.1, fun i => (T i).2.2.2.2⟩, hcs, by show len ≤ _; omega, fun i hi => ?_⟩
    have ha := addr_of_cell (by simpa [Addr.add] using (hx 0 (by show 0 < m; have : i < len := hi; omega)).1)
    have hi' : i < len := hi
    have hc := (hx i (by omega)).1
    rw [ha, Addr.add_mid] at hc
    refine ⟨a.block, a.off, (T i).1, (T i).2.2.1, by rw [← ha], World.block_lt_of_cell? w ⟨a.block, a.off + i, none⟩ hc, ?_, (hT i hi).2⟩
    rw [hc, (hT i hi).1]
set_option maxRecDepth 100000 in
/-- A table by value. -/
theorem open_book {r : Reach} {b0 : Nat} {v : Value} {d : DataW H} {p : List MemPlace} (hv : Value.okWide Try.prog w r b0 89 v) (h : DataW.Trod enc Try.prog w base spare held 89 v d p) :
    ∃ (b : BV) (B : BD), v = b.val B ∧ BookAt (fun b => b < w.heap.size) w b B := by
  obtain ⟨v0, v1, y0, y1, n, rfl, _, _, h0, h1⟩ := open_agg2 Try.underlying89 (by kernel_rfl) cells56 hv h
  obtain ⟨a1, n1, c1, f1, rfl, m1⟩ := open_intsAt h0
  obtain ⟨a2, c2, D, rfl, m2⟩ := open_leafSS h1
  exact ⟨⟨a1, a2, c1, c2⟩, ⟨n1, f1, D⟩, rfl, ⟨m1, m2⟩⟩
end
end Go.Proofs.Ytjplodenflkghaa
/- A nest that comes in: opened. -/
namespace Go.Proofs.Ytjplodenflkghaa
open Go.ChangeShapes Go.WideShapes Go.ChangeAt Go.RowKit Go.Joins Go.Deep
section
variable {H : Type} {enc : TypeId × Value → H} {w : World} {base : Nat} {spare : Nat → Bool} {held : Bool}
set_option linter.unusedSimpArgs false
set_option linter.unusedVariables false
theorem cellsN : Try.prog.cellsOf 91 = 4 := by kernel_rfl
theorem cells_26 : Try.prog.cellsOf 26 = 1 := by kernel_rfl
theorem cells_87 : Try.prog.cellsOf 87 = 1 := by kernel_rfl
set_option maxRecDepth 100000 in
theorem open_table {n : Nat} {c0 c1 : Value} {y : DataW H × List MemPlace} (h : DataW.trod enc Try.prog w base spare held n 89 [c0, c1] = some y) :
    ∃ (b : BV) (B : BD), c0 = .slice b.a1 B.n b.c1 ∧ c1 = .slice b.a2 B.D.n b.c2 ∧ BookAt (fun b => b < w.heap.size) w b B := by
  obtain ⟨z0, z1, m, hx, _, h0, h1⟩ := trod_struct2 Try.underlying89 h
  have h0' : DataW.trod enc Try.prog w base spare held m 26 [c0] = some z0 := by simpa [cells_26] using h0
  have h1' : DataW.trod enc Try.prog w base spare held m 87 [c1] = some z1 := by simpa [cells_87] using h1
  obtain ⟨a1, n1, k1, f1, e1, m1⟩ := open_intsAt h0'
  obtain ⟨a2, k2, D, e2, m2⟩ := open_leafSS h1'
  exact ⟨⟨a1, a2, k1, k2⟩, ⟨n1, f1, D⟩, e1, e2, ⟨m1, m2⟩⟩
set_option maxRecDepth 100000 in
/-- A nest by value. -/
theorem open_nest {r : Reach} {b0 : Nat} {v : Value} {d : DataW H} {p : List MemPlace} (hv : Value.okWide Try.prog w r b0 91 v) (h : DataW.Trod enc Try.prog w base spare held 91 v d p) :
    ∃ (u : NV) (D : ND), v = u.val D ∧ NAt (fun b => b < w.heap.size) w u D := by
  obtain ⟨cs, rfl, hsz⟩ := okWide_struct Try.underlying91 hv
  obtain ⟨c0, c1, c2, c3, rfl⟩ := array4 (hsz.trans cellsN)
  obtain ⟨fuel, hf⟩ := h
  obtain ⟨y0, y1, n, hx, _, h0, h1⟩ := trod_struct2 Try.underlying91 hf
  have h0' : DataW.trod enc Try.prog w base spare held n 89 [c0, c1] = some y0 := by simpa [Value.cells, cells56] using h0
  have h1' : DataW.trod enc Try.prog w base spare held n 89 [c2, c3] = some y1 := by simpa [Value.cells, cells56] using h1
  obtain ⟨b, B, rfl, rfl, hB⟩ := open_table h0'
  obtain ⟨b', B', rfl, rfl, hB'⟩ := open_table h1'
  exact ⟨⟨b, b'⟩, ⟨B, B'⟩, rfl, ⟨hB, hB'⟩⟩
end
end Go.Proofs.Ytjplodenflkghaa
