/- Flat tables: the program's FlatOf. -/
import Derived.Test.YtjplodenflkghaaJFlat
import Derived.Test.YtjplodenflkghaaJoin7
namespace Go.Proofs.Ytjplodenflkghaa
open Go.RowKit
set_option linter.unusedSimpArgs false
set_option linter.unusedVariables false
theorem Fl.form {G H : BD} : ∀ {j : Nat} {B : BD}, Fl G H j B → B = ⟨4, B.c, ⟨4, fun _ => 4, B.D.p, B.D.m⟩⟩
  | 0, _, .zero => rfl
  | j + 1, _, .skip h _ => h.form
  | j + 1, _, .put (B := B) h _ _ => by
    have e : B.D.n = 4 := by rw [h.form]
    rw [chB_eq e]
set_option maxRecDepth 10000 in
set_option maxHeartbeats 3200000 in
theorem flat_any (D : ND) (z1 z2 : Nat) (w : World) (g : D.Good) (h1 : Row w z1 (4 * 8) (lc D.G.D.p D.G.D.m)) (h2 : Row w z2 (4 * 8) (lc D.H.D.p D.H.D.m)) :
    Calls Try.prog 112 #[.agg (held10 D.G.c D.H.c z1 4 z2 4)] w fun e w' => (∃ B zl, Fl D.G D.H 16 B ∧ e = .returned (.agg (held5 B.c zl 4)) ∧ Row w' zl (4 * 8) (lc B.D.p B.D.m) ∧ w.heap.size ≤ zl) ∧ Blw w w' := by
  have hA1 : Blw w (w.alloc (.cells (held10 D.G.c D.H.c z1 4 z2 4) 138)) := (Blw.refl _).alloc _
  have hA2 : Blw (w.alloc (.cells (held10 D.G.c D.H.c z1 4 z2 4) 138)) ((w.alloc (.cells (held10 D.G.c D.H.c z1 4 z2 4) 138)).alloc (.cells zero5 129)) := (Blw.refl _).alloc _
  have rz := zrow5 (w.alloc (.cells (held10 D.G.c D.H.c z1 4 z2 4) 138)) (.slice none 0 0) 129
  rw [World.size_alloc] at rz
  have HZ : Hid (Row ((w.alloc (.cells (held10 D.G.c D.H.c z1 4 z2 4) 138)).alloc (.cells zero5 129)) (w.heap.size + 1) 5 (zrow (.slice none 0 0))) := rz
  have HR : Hid (Row ((w.alloc (.cells (held10 D.G.c D.H.c z1 4 z2 4) 138)).alloc (.cells zero5 129)) w.heap.size 10 (hten D.G.c D.H.c (.slice (some ⟨z1, 0, none⟩) 4 4) (.slice (some ⟨z2, 0, none⟩) 4 4))) := (box_hh w D.G.c D.H.c z1 z2).blw hA2
  have H1 : Hid (Row ((w.alloc (.cells (held10 D.G.c D.H.c z1 4 z2 4) 138)).alloc (.cells zero5 129)) z1 (4 * 8) (lc D.G.D.p D.G.D.m)) := h1.blw (hA1.trans hA2)
  have H2 : Hid (Row ((w.alloc (.cells (held10 D.G.c D.H.c z1 4 z2 4) 138)).alloc (.cells zero5 129)) z2 (4 * 8) (lc D.H.D.p D.H.D.m)) := h2.blw (hA1.trans hA2)
  have HB : Hid (Blw w ((w.alloc (.cells (held10 D.G.c D.H.c z1 4 z2 4) 138)).alloc (.cells zero5 129))) := hA1.trans hA2
  have HL : Hid (z1 < w.heap.size ∧ z2 < w.heap.size) := ⟨h1.lt, h2.lt⟩
  have HSZ : Hid (w.heap.size + 1 + 1 = ((w.alloc (.cells (held10 D.G.c D.H.c z1 4 z2 4) 138)).alloc (.cells zero5 129)).heap.size) := by show _ = _; simp
  have HG : Hid D.Good := g
  clear hA1 hA2 rz h1 h2 g
  go_enter Try.func112, Try.ntmps112
  go_upto_region 1 with fail
  generalize ((w.alloc (.cells (held10 D.G.c D.H.c z1 4 z2 4) 138)).alloc (.cells zero5 129)) = w0 at *
  go_wp2_with fail
  refine (emptyTable_any 4 _ (by omega) (by omega)).mono ?_
  rintro e w1 ⟨zl, rfl, rl, hzl, hb1⟩
  have hA : Blw w1 (w1.alloc (.cells (held5 (fun _ => -1) zl 4) 129)) := (Blw.refl _).alloc _
  have hs1 := hb1.size
  have hsz := HSZ.out
  have hl := HL.out
  have hrl := rl.lt
  have HFT : Hid (FT D w.heap.size z1 z2 w1.heap.size zl (newB 4) (w1.alloc (.cells (held5 (fun _ => -1) zl 4) 129))) :=
    ⟨(HR.out.blw hb1).blw hA, (H1.out.blw hb1).blw hA, (H2.out.blw hb1).blw hA, row5 w1 (.int .i64 (-1)) (.int .i64 (-1)) (.int .i64 (-1)) (.int .i64 (-1)) (.slice (some ⟨zl, 0, none⟩) 4 4) 129, rl.blw hA, ⟨by omega, by omega⟩, ⟨by omega, by omega⟩, ⟨by omega, by omega⟩, by omega⟩
  replace HZ : Hid (Row (w1.alloc (.cells (held5 (fun _ => -1) zl 4) 129)) (w.heap.size + 1) 5 (zrow (.slice none 0 0))) := (HZ.out.blw hb1).blw hA
  replace HB : Hid (Blw w (w1.alloc (.cells (held5 (fun _ => -1) zl 4) 129))) := (HB.out.trans hb1).trans hA
  have HZZ : Hid (w.heap.size + 1 + 1 ≤ zl ∧ w.heap.size + 1 + 1 ≤ w1.heap.size) := ⟨by omega, by omega⟩
  clear hb1 hA hs1 hsz hl hrl rl HR H1 H2 HL HSZ hzl
  go_upto_region 2 with fail
  generalize (w1.alloc (.cells (held5 (fun _ => -1) zl 4) 129)) = w2 at *
  generalize w1.heap.size = zf at *
  obtain ⟨p0, p1, p2, p3, p4, p5, p6, p7, p8, p9⟩ := get10 HFT.out.h
  go_wp2_with fail
  clear p0 p1 p2 p3 p4 p5 p6 p7 p8 p9
  refine (walkFlat_any D w.heap.size z1 z2 zf zl (newB 4) _ HG.out .zero HFT.out).mono ?_
  rintro e w3 ⟨⟨u, rfl⟩, B, hF, hT, hM⟩
  have HF : Hid (Fl D.G D.H 16 B) := hF
  have HT : Hid (FT D w.heap.size z1 z2 zf zl B w3) := hT
  have hzz := HZZ.out
  replace HZ : Hid (Row w3 (w.heap.size + 1) 5 (zrow (.slice none 0 0))) := HZ.out.mod hM (by omega)
  replace HB : Hid (Blw w w3) := Mod.blw HB.out hM (fun i hi => by omega)
  clear hF hT hM HFT hzz
  obtain ⟨t0, t1, t2, t3, t4⟩ := zget HZ.out
  have f0 := HZ.out.frozen 0; have f1 := HZ.out.frozen 1; have f2 := HZ.out.frozen 2; have f3 := HZ.out.frozen 3; have f4 := HZ.out.frozen 4
  obtain ⟨s0, s1, s2, s3, s4⟩ := get5 HT.out.f
  clear HZ
  go_wp2
  refine bodyPost_ret (v := .agg (held5 B.c zl 4)) (by simp [results, Try.results112, go_sem, t0, t1, t2, t3, t4]) rfl ?_
  have hzz := HZZ.out
  exact ⟨⟨B, zl, HF.out, rfl, HT.out.lf.mod (set5_mod _ (w.heap.size + 1) _ _ _ _ _) (by omega), by omega⟩, set5_blw HB.out (by omega) _ _ _ _ _⟩
/-- What FlatOf tells. -/
def foOut (D : ND) (R : BD) (r : Bool) : Prop := (D.Good ∧ Fl D.G D.H 16 R ∧ r = true) ∨ (¬ D.Good ∧ R = BD.zero ∧ r = false)
theorem foOut_same {D : ND} {R R' : BD} {r r' : Bool} (h : foOut D R r) (h' : foOut D R' r') : R = R' ∧ r = r' := by
  rcases h with ⟨g, a, rfl⟩ | ⟨g, rfl, rfl⟩ <;> rcases h' with ⟨g', a', rfl⟩ | ⟨g', rfl, rfl⟩
  · exact ⟨a.same a', rfl⟩
  · exact absurd g g'
  · exact absurd g' g
  · exact ⟨rfl, rfl⟩
set_option maxRecDepth 10000 in
set_option maxHeartbeats 3200000 in
theorem implFlat_any (v : NV) (D : ND) (Y : Nat → Prop) (w : World) (h : NAt Y w v D) (hY : ∀ x, Y x → x < w.heap.size) :
    Calls Try.prog 38 #[v.val D] w (GivesB (foOut D) w) := by
  have hA1 : Blw w (w.alloc (.cells #[.slice v.g.a1 D.G.n v.g.c1, .slice v.g.a2 D.G.D.n v.g.c2, .slice v.h.a1 D.H.n v.h.c1, .slice v.h.a2 D.H.D.n v.h.c2] 60)) := (Blw.refl _).alloc _
  have hA2 : Blw (w.alloc (.cells #[.slice v.g.a1 D.G.n v.g.c1, .slice v.g.a2 D.G.D.n v.g.c2, .slice v.h.a1 D.H.n v.h.c1, .slice v.h.a2 D.H.D.n v.h.c2] 60)) ((w.alloc (.cells #[.slice v.g.a1 D.G.n v.g.c1, .slice v.g.a2 D.G.D.n v.g.c2, .slice v.h.a1 D.H.n v.h.c1, .slice v.h.a2 D.H.D.n v.h.c2] 60)).alloc (.cells #[.slice none 0 0, .slice none 0 0] 29)) := (Blw.refl _).alloc _
  have rz := box2 (w.alloc (.cells #[.slice v.g.a1 D.G.n v.g.c1, .slice v.g.a2 D.G.D.n v.g.c2, .slice v.h.a1 D.H.n v.h.c1, .slice v.h.a2 D.H.D.n v.h.c2] 60)) (.slice none 0 0) (.slice none 0 0) 29
  rw [World.size_alloc] at rz
  have HZ : Hid (Row ((w.alloc (.cells #[.slice v.g.a1 D.G.n v.g.c1, .slice v.g.a2 D.G.D.n v.g.c2, .slice v.h.a1 D.H.n v.h.c1, .slice v.h.a2 D.H.D.n v.h.c2] 60)).alloc (.cells #[.slice none 0 0, .slice none 0 0] 29)) (w.heap.size + 1) 2 (fun i => if i = 0 then .slice none 0 0 else .slice none 0 0)) := rz
  have HR : Hid (Row ((w.alloc (.cells #[.slice v.g.a1 D.G.n v.g.c1, .slice v.g.a2 D.G.D.n v.g.c2, .slice v.h.a1 D.H.n v.h.c1, .slice v.h.a2 D.H.D.n v.h.c2] 60)).alloc (.cells #[.slice none 0 0, .slice none 0 0] 29)) w.heap.size 4 (nb v D)) := (box4 w _ _ _ _ 60).blw hA2
  have HN : Hid (NAt Y ((w.alloc (.cells #[.slice v.g.a1 D.G.n v.g.c1, .slice v.g.a2 D.G.D.n v.g.c2, .slice v.h.a1 D.H.n v.h.c1, .slice v.h.a2 D.H.D.n v.h.c2] 60)).alloc (.cells #[.slice none 0 0, .slice none 0 0] 29)) v D) := h.blw (hA1.trans hA2)
  have HB : Hid (Blw w ((w.alloc (.cells #[.slice v.g.a1 D.G.n v.g.c1, .slice v.g.a2 D.G.D.n v.g.c2, .slice v.h.a1 D.H.n v.h.c1, .slice v.h.a2 D.H.D.n v.h.c2] 60)).alloc (.cells #[.slice none 0 0, .slice none 0 0] 29))) := hA1.trans hA2
  have HSZ : Hid (w.heap.size + 1 + 1 = ((w.alloc (.cells #[.slice v.g.a1 D.G.n v.g.c1, .slice v.g.a2 D.G.D.n v.g.c2, .slice v.h.a1 D.H.n v.h.c1, .slice v.h.a2 D.H.D.n v.h.c2] 60)).alloc (.cells #[.slice none 0 0, .slice none 0 0] 29)).heap.size) := by show _ = _; simp
  have HYY : Hid (∀ x, Y x → x < ((w.alloc (.cells #[.slice v.g.a1 D.G.n v.g.c1, .slice v.g.a2 D.G.D.n v.g.c2, .slice v.h.a1 D.H.n v.h.c1, .slice v.h.a2 D.H.D.n v.h.c2] 60)).alloc (.cells #[.slice none 0 0, .slice none 0 0] 29)).heap.size) := fun x hx => by have := hY x hx; simp; omega
  clear hA1 hA2 rz h hY
  go_enter Try.func38, Try.ntmps38
  obtain ⟨p0, p1, p2, p3⟩ := get4 HR.out
  go_wp2_with fail
  clear p0 p1 p2 p3
  generalize ((w.alloc (.cells #[.slice v.g.a1 D.G.n v.g.c1, .slice v.g.a2 D.G.D.n v.g.c2, .slice v.h.a1 D.H.n v.h.c1, .slice v.h.a2 D.H.D.n v.h.c2] 60)).alloc (.cells #[.slice none 0 0, .slice none 0 0] 29)) = w0 at *
  refine (holdNest_any v D Y _ HN.out HYY.out).mono ?_
  rintro e w1 ⟨h1, hb1⟩
  rcases h1 with ⟨z1, z2, hg, rfl, hrow, hrow2, hlo, hlo2⟩ | ⟨hg, rfl⟩
  case inr =>
    have hA : Blw w1 (w1.alloc (.cells zero10 138)) := (Blw.refl _).alloc _
    replace HZ : Hid (Row (w1.alloc (.cells zero10 138)) (w.heap.size + 1) 2 (fun i => if i = 0 then .slice none 0 0 else .slice none 0 0)) := (HZ.out.blw hb1).blw hA
    replace HB : Hid (Blw w (w1.alloc (.cells zero10 138))) := (HB.out.trans hb1).trans hA
    have HG : Hid (¬ D.Good) := hg
    clear hA hb1 hg HN HYY HSZ HR
    go_upto_region 2 with fail
    generalize (w1.alloc (.cells zero10 138)) = w2 at *
    obtain ⟨t0, t1⟩ := get2 HZ.out
    have f0 := HZ.out.frozen 0; have f1 := HZ.out.frozen 1
    clear HZ
    go_wp2
    exact bodyPost_ret (v := .tuple #[BV.zero.val BD.zero, .bool false]) (by simp [results, Try.results38, go_sem, t0, t1]) rfl (zero_givesT (z := w.heap.size + 1) (by omega) (Or.inr ⟨HG.out, rfl, rfl⟩) HB.out)
  have hA : Blw w1 (w1.alloc (.cells (held10 D.G.c D.H.c z1 4 z2 4) 138)) := (Blw.refl _).alloc _
  have HG : Hid D.Good := hg
  have H10 : Hid (Row (w1.alloc (.cells (held10 D.G.c D.H.c z1 4 z2 4) 138)) w1.heap.size 10 (hten D.G.c D.H.c (.slice (some ⟨z1, 0, none⟩) 4 4) (.slice (some ⟨z2, 0, none⟩) 4 4))) := box_hh w1 D.G.c D.H.c z1 z2
  have HGL : Hid (Row (w1.alloc (.cells (held10 D.G.c D.H.c z1 4 z2 4) 138)) z1 (4 * 8) (lc D.G.D.p D.G.D.m)) := hrow.blw hA
  have HHL : Hid (Row (w1.alloc (.cells (held10 D.G.c D.H.c z1 4 z2 4) 138)) z2 (4 * 8) (lc D.H.D.p D.H.D.m)) := hrow2.blw hA
  replace HZ : Hid (Row (w1.alloc (.cells (held10 D.G.c D.H.c z1 4 z2 4) 138)) (w.heap.size + 1) 2 (fun i => if i = 0 then .slice none 0 0 else .slice none 0 0)) := (HZ.out.blw hb1).blw hA
  replace HB : Hid (Blw w (w1.alloc (.cells (held10 D.G.c D.H.c z1 4 z2 4) 138))) := (HB.out.trans hb1).trans hA
  clear hA hb1 hg HN HYY HSZ HR hrow hrow2 hlo hlo2
  go_upto_region 2 with fail
  generalize (w1.alloc (.cells (held10 D.G.c D.H.c z1 4 z2 4) 138)) = w2 at *
  generalize w1.heap.size = zb at *
  obtain ⟨p0, p1, p2, p3, p4, p5, p6, p7, p8, p9⟩ := get10 H10.out
  go_wp2_with fail
  clear p0 p1 p2 p3 p4 p5 p6 p7 p8 p9
  refine (flat_any D z1 z2 _ HG.out HGL.out HHL.out).mono ?_
  rintro e w3 ⟨⟨B, zl, hF, rfl, hrl, hzl⟩, hb3⟩
  have HF : Hid (Fl D.G D.H 16 B) := hF
  have HRL : Hid (Row w3 zl (4 * 8) (lc B.D.p B.D.m)) := hrl
  replace HZ : Hid (Row w3 (w.heap.size + 1) 2 (fun i => if i = 0 then .slice none 0 0 else .slice none 0 0)) := HZ.out.blw hb3
  replace HB : Hid (Blw w w3) := HB.out.trans hb3
  clear hF hrl hzl hb3 H10 HGL HHL
  go_wp2_with fail
  refine (giveOut_any B.c zl 4 B.D.p B.D.m _ (by omega) HRL.out).mono ?_
  rintro e w4 ⟨b4, rfl, own, hb4⟩
  have hr2 := HZ.out.blw hb4
  have hlt := HZ.out.lt
  have FIN : Hid _ := fin_givesT (out := foOut D) (w := w) (W := w4) (z := w.heap.size + 1) (b := b4) (R := ⟨4, B.c, ⟨4, fun _ => 4, B.D.p, B.D.m⟩⟩) (by omega) (Or.inl ⟨HG.out, by rw [← HF.out.form]; exact HF.out, rfl⟩) (small4 (by omega)) (HB.out.trans hb4) own (fun x hx => ⟨by have := HB.out.size; omega, by omega, hx.2⟩)
  obtain ⟨t0, t1⟩ := get2 hr2
  have f0 := hr2.frozen 0; have f1 := hr2.frozen 1
  clear HZ HB HRL HF hr2 hlt own hb4
  go_wp2
  exact bodyPost_ret (v := .tuple #[b4.val ⟨4, B.c, ⟨4, fun _ => 4, B.D.p, B.D.m⟩⟩, .bool true]) (by simp [results, Try.results38, go_sem, t0, t1]) rfl FIN.out
end Go.Proofs.Ytjplodenflkghaa
