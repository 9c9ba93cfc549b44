/- Flat tables: the model's FlatOf. -/
import Derived.Test.YtjplodenflkghaaJFlatG
import Derived.Test.YtjplodenflkghaaJNewS
import Derived.Test.YtjplodenflkghaaJSpecMp
namespace Go.Proofs.Ytjplodenflkghaa
open Go.RowKit
set_option linter.unusedSimpArgs false
set_option linter.unusedVariables false
theorem row2F {w : World} {z : Nat} {u v a b : Value} (h : Row w z 2 (fun i => if i = 0 then u else v)) : Row ((w.setCell ⟨z, 0, none⟩ a).setCell ⟨z, 1, none⟩ b) z 2 (fun i => if i = 0 then a else b) :=
  ((h.set 0 a).set 1 b).congr fun i hi => by
    match i, hi with
    | 0, _ => rfl
    | 1, _ => rfl
/-- What the model's loop stands on. -/
structure FS (Y : Nat → Prop) (v : NV) (D : ND) (w wr : World) (zt : Nat) (b : BV) (B : BD) : Prop where
  arg : Row wr w.heap.size 4 (nb v D)
  res : Row wr (w.heap.size + 1) 2 (fun i => if i = 0 then .slice none 0 0 else .slice none 0 0)
  box : Row wr zt 2 (fun i => if i = 0 then .slice b.a1 B.n b.c1 else .slice b.a2 B.D.n b.c2)
  own : BookOwn (fun x => w.heap.size + 1 < x ∧ x < wr.heap.size ∧ x ≠ zt) wr b B
  at_ : NAt Y wr v D
  blw : Blw w wr
  lo : w.heap.size + 1 < zt
theorem FS.go {Y : Nat → Prop} {v : NV} {D : ND} {w wr w' : World} {zt : Nat} {b : BV} {B : BD} (h : FS Y v D w wr zt b B) (hb : Blw wr w') : FS Y v D w w' zt b B := by
  have := hb.size
  exact ⟨h.arg.blw hb, h.res.blw hb, h.box.blw hb, (h.own.blw hb).mono (fun x hx => by omega), h.at_.blw hb, h.blw.trans hb, h.lo⟩
theorem FS.set {Y : Nat → Prop} {v : NV} {D : ND} {w wr : World} {zt : Nat} {b b3 : BV} {B R : BD} {X : Nat → Prop} (h : FS Y v D w wr zt b B) (hY : ∀ x, Y x → x < w.heap.size) (own : BookOwn X wr b3 R) (hX : ∀ x, X x → w.heap.size + 1 < x ∧ x < wr.heap.size ∧ x ≠ zt) :
    FS Y v D w ((wr.setCell ⟨zt, 0, none⟩ (.slice b3.a1 R.n b3.c1)).setCell ⟨zt, 1, none⟩ (.slice b3.a2 R.D.n b3.c2)) zt b3 R := by
  have hm := set2_mod (X := fun x => x = zt) wr rfl (.slice b3.a1 R.n b3.c1) (.slice b3.a2 R.D.n b3.c2)
  have hs := hm.size
  have lo := h.lo
  exact ⟨h.arg.mod hm (by omega), h.res.mod hm (by omega), row2F h.box, (own.mod hm (fun x hx e => (hX x hx).2.2 e)).mono (fun x hx => by have := hX x hx; omega), h.at_.mod hm (fun x hx e => by have := hY x hx; omega), Mod.blw h.blw hm (fun i hi => by omega), lo⟩
set_option maxRecDepth 10000 in
set_option maxHeartbeats 3200000 in
theorem specFlat_any (v : NV) (D : ND) (Y : Nat → Prop) (w : World) (hg : D.G.n ≤ 1048576) (hh : D.H.n ≤ 1048576) (hY : ∀ x, Y x → x < w.heap.size) (h : NAt Y w v D) :
    Calls Try.prog 39 #[v.val D] w (GivesB (foOut D) w) := by
  have hA1 : Blw w (w.alloc (.cells #[.slice v.g.a1 D.G.n v.g.c1, .slice v.g.a2 D.G.D.n v.g.c2, .slice v.h.a1 D.H.n v.h.c1, .slice v.h.a2 D.H.D.n v.h.c2] 60)) := (Blw.refl _).alloc _
  have hA2 : Blw (w.alloc (.cells #[.slice v.g.a1 D.G.n v.g.c1, .slice v.g.a2 D.G.D.n v.g.c2, .slice v.h.a1 D.H.n v.h.c1, .slice v.h.a2 D.H.D.n v.h.c2] 60)) ((w.alloc (.cells #[.slice v.g.a1 D.G.n v.g.c1, .slice v.g.a2 D.G.D.n v.g.c2, .slice v.h.a1 D.H.n v.h.c1, .slice v.h.a2 D.H.D.n v.h.c2] 60)).alloc (.cells #[.slice none 0 0, .slice none 0 0] 29)) := (Blw.refl _).alloc _
  have rz := box2 (w.alloc (.cells #[.slice v.g.a1 D.G.n v.g.c1, .slice v.g.a2 D.G.D.n v.g.c2, .slice v.h.a1 D.H.n v.h.c1, .slice v.h.a2 D.H.D.n v.h.c2] 60)) (.slice none 0 0) (.slice none 0 0) 29
  rw [World.size_alloc] at rz
  have HZ : Hid (Row ((w.alloc (.cells #[.slice v.g.a1 D.G.n v.g.c1, .slice v.g.a2 D.G.D.n v.g.c2, .slice v.h.a1 D.H.n v.h.c1, .slice v.h.a2 D.H.D.n v.h.c2] 60)).alloc (.cells #[.slice none 0 0, .slice none 0 0] 29)) (w.heap.size + 1) 2 (fun i => if i = 0 then .slice none 0 0 else .slice none 0 0)) := rz
  have HR : Hid (Row ((w.alloc (.cells #[.slice v.g.a1 D.G.n v.g.c1, .slice v.g.a2 D.G.D.n v.g.c2, .slice v.h.a1 D.H.n v.h.c1, .slice v.h.a2 D.H.D.n v.h.c2] 60)).alloc (.cells #[.slice none 0 0, .slice none 0 0] 29)) w.heap.size 4 (nb v D)) := (box4 w _ _ _ _ 60).blw hA2
  have HN : Hid (NAt Y ((w.alloc (.cells #[.slice v.g.a1 D.G.n v.g.c1, .slice v.g.a2 D.G.D.n v.g.c2, .slice v.h.a1 D.H.n v.h.c1, .slice v.h.a2 D.H.D.n v.h.c2] 60)).alloc (.cells #[.slice none 0 0, .slice none 0 0] 29)) v D) := h.blw (hA1.trans hA2)
  have HB : Hid (Blw w ((w.alloc (.cells #[.slice v.g.a1 D.G.n v.g.c1, .slice v.g.a2 D.G.D.n v.g.c2, .slice v.h.a1 D.H.n v.h.c1, .slice v.h.a2 D.H.D.n v.h.c2] 60)).alloc (.cells #[.slice none 0 0, .slice none 0 0] 29))) := hA1.trans hA2
  have HSZ : Hid (w.heap.size + 1 + 1 = ((w.alloc (.cells #[.slice v.g.a1 D.G.n v.g.c1, .slice v.g.a2 D.G.D.n v.g.c2, .slice v.h.a1 D.H.n v.h.c1, .slice v.h.a2 D.H.D.n v.h.c2] 60)).alloc (.cells #[.slice none 0 0, .slice none 0 0] 29)).heap.size) := by show _ = _; simp
  have HYY : Hid (∀ x, Y x → x < w.heap.size) := hY
  clear hA1 hA2 rz h hY
  go_enter Try.func39, Try.ntmps39
  obtain ⟨p0, p1, p2, p3⟩ := get4 HR.out
  go_wp2_with fail
  clear p0 p1 p2 p3
  generalize ((w.alloc (.cells #[.slice v.g.a1 D.G.n v.g.c1, .slice v.g.a2 D.G.D.n v.g.c2, .slice v.h.a1 D.H.n v.h.c1, .slice v.h.a2 D.H.D.n v.h.c2] 60)).alloc (.cells #[.slice none 0 0, .slice none 0 0] 29)) = w0 at *
  refine (specGoodN_any v D Y _ hg hh HN.out).mono ?_
  rintro e w1 ⟨r, rfl, hr, hb1⟩
  have HT : Hid (r = true ↔ D.Good) := hr
  replace HSZ : Hid (w.heap.size + 1 + 1 ≤ w1.heap.size) := by have := HSZ.out; have := hb1.size; show _ ≤ _; omega
  replace HN : Hid (NAt Y w1 v D) := HN.out.blw hb1
  replace HR : Hid (Row w1 w.heap.size 4 (nb v D)) := HR.out.blw hb1
  replace HZ : Hid (Row w1 (w.heap.size + 1) 2 (fun i => if i = 0 then .slice none 0 0 else .slice none 0 0)) := HZ.out.blw hb1
  replace HB : Hid (Blw w w1) := HB.out.trans hb1
  clear hb1 hr
  cases r
  · have HNG : Hid (¬ D.Good) := fun g => by have := HT.out.2 g; simp at this
    obtain ⟨t0, t1⟩ := get2 HZ.out
    have f0 := HZ.out.frozen 0; have f1 := HZ.out.frozen 1
    clear HT HN HR HZ
    go_wp2
    exact bodyPost_ret (v := .tuple #[BV.zero.val BD.zero, .bool false]) (by simp [results, Try.results39, go_sem, t0, t1]) rfl (zero_givesT (z := w.heap.size + 1) (by omega) (Or.inr ⟨HNG.out, rfl, rfl⟩) HB.out)
  have HG : Hid D.Good := HT.out.1 (by first | rfl | trivial)
  clear HT
  go_wp2_with fail
  refine (specNew_any 4 _).mono ?_
  rintro e w2 ⟨b2, R2, r2, rfl, ho, hs2, own2, hb2⟩
  have HE2 : Hid (R2 = newB 4) := by
    rcases ho with ⟨_, e2, _⟩ | ⟨hn, _, _⟩
    · exact e2
    · exact absurd (by unfold cntOK; omega) hn
  have hA : Blw w2 (w2.alloc (.cells #[.slice b2.a1 R2.n b2.c1, .slice b2.a2 R2.D.n b2.c2] 29)) := (Blw.refl _).alloc _
  have hs12 := hb2.size
  have hsz := HSZ.out
  have HF0 : Hid (FS Y v D w (w2.alloc (.cells #[.slice b2.a1 R2.n b2.c1, .slice b2.a2 R2.D.n b2.c2] 29)) w2.heap.size b2 R2) := ⟨(HR.out.blw hb2).blw hA, (HZ.out.blw hb2).blw hA, box2 w2 _ _ 29, (own2.blw hA).mono (fun x hx => ⟨by omega, by simp; omega, by omega⟩), (HN.out.blw hb2).blw hA, (HB.out.trans hb2).trans hA, by omega⟩
  have HFL : Hid (Fl D.G D.H 0 R2) := by rw [HE2.out]; exact .zero
  clear ho hs2 own2 hb2 hA hs12 hsz HR HZ HN HB HSZ HE2
  go_upto_region 4 with fail
  generalize (w2.alloc (.cells #[.slice b2.a1 R2.n b2.c1, .slice b2.a2 R2.D.n b2.c2] 29)) = w3 at *
  generalize w2.heap.size = zt at *
  go_wp2_with fail
  go_loopw [6] (fun i wr => ∃ j : Nat, j ≤ 16 ∧ i = .int .i64 j ∧ ∃ b B, Fl D.G D.H j B ∧ FS Y v D w wr zt b B) (fun i _ => 16 - (intOf i).toNat)
  case atStart => exact ⟨0, by omega, rfl, b2, R2, HFL.out, HF0.out⟩
  case round =>
    obtain ⟨j, hj, rfl, b, B, hF, hS⟩ := hrel
    clear HF0 HFL
    have HF : Hid (Fl D.G D.H j B) := hF
    have HS : Hid (FS Y v D w wr zt b B) := hS
    clear hF hS
    go_wp2_with fail
    refine (l6At_any (j : Int) _).mono ?_
    rintro e wr ⟨r, rfl, hr, rfl⟩
    have HRR : Hid (r = true ↔ pgOK (j : Int)) := hr
    clear hr
    by_cases hlt : j < 16
    case neg =>
      obtain rfl : j = 16 := by omega
      obtain rfl : r = false := by
        cases r
        · rfl
        · have := HRR.out.1 rfl; unfold pgOK at this; omega
      have OK : Hid (FlOK D.G D.H 16 B) := HF.out.ok HG.out (by omega)
      have FIN : Hid _ := fin_givesT (out := foOut D) (w := w) (W := wr) (z := w.heap.size + 1) (b := b) (R := B) (by omega) (Or.inl ⟨HG.out, HF.out, rfl⟩) (by rw [HF.out.form]; exact small4 (by omega)) HS.out.blw HS.out.own (fun x hx => ⟨by omega, by omega, hx.2.1⟩)
      obtain ⟨t0, t1⟩ := get2 HS.out.res
      have f0 := HS.out.res.frozen 0; have f1 := HS.out.res.frozen 1
      obtain ⟨s0, s1⟩ := get2 HS.out.box
      clear HS HF HRR OK
      go_wp2
      exact bodyPost_ret (v := .tuple #[b.val B, .bool true]) (by simp [results, Try.results39, go_sem, t0, t1]) rfl FIN.out
    obtain rfl : r = true := HRR.out.2 ⟨by omega, by omega⟩
    clear HRR
    have hgp := leafs HG.out.g hlt
    have hgh := leafs HG.out.h (a := (gP D.G j).toNat) (by omega)
    obtain ⟨y, hy⟩ : ∃ y : Nat, gP D.G j = y := ⟨(gP D.G j).toNat, by omega⟩
    have hy16 : y < 16 := by omega
    have HYP : Hid (gP D.G j = (y : Int)) := hy
    have hyn : (gP D.G j).toNat = y := by rw [hy, Int.toNat_natCast]
    have HFX : Hid (gP D.H y = fX D.G D.H j) := by show _ = gP D.H (gP D.G j).toNat; rw [hyn]
    have HFY : Hid (bits .and .i64 (gM D.G j) (gM D.H y) = fY D.G D.H j) := by
      show _ = bits .and .i64 (gM D.H (gP D.G j).toNat) (gM D.G j)
      rw [hyn] at hgh ⊢
      exact (and_ok hgp.2.1 hgh.2.1).1
    have HM0 : Hid (gM D.G j = 0 → fY D.G D.H j = 0) := fun e0 => by
      rw [← HFY.out, e0]
      rw [hyn] at hgh
      rcases (show gM D.H y = 0 ∨ gM D.H y = 1 ∨ gM D.H y = 2 ∨ gM D.H y = 3 by omega) with q | q | q | q <;> rw [q] <;> decide
    clear hgp hgh hy hyn
    obtain ⟨p0, p1, p2, p3⟩ := get4 HS.out.arg
    go_wp2_with fail
    clear p0 p1 p2 p3
    refine (l6FindB_any v.g D.G j Y _ HG.out.g hlt HS.out.at_.g).mono ?_
    rintro e w4 ⟨rfl, hb4⟩
    have hA : Blw w4 (w4.alloc (.cells #[.int .i64 (gP D.G j), .int .i64 (gM D.G j)] 144)) := (Blw.refl _).alloc _
    have HL1 : Hid (Row (w4.alloc (.cells #[.int .i64 (gP D.G j), .int .i64 (gM D.G j)] 144)) w4.heap.size 2 (fun i => if i = 0 then .int .i64 (gP D.G j) else .int .i64 (gM D.G j))) := box2 w4 _ _ 144
    replace HS : Hid (FS Y v D w (w4.alloc (.cells #[.int .i64 (gP D.G j), .int .i64 (gM D.G j)] 144)) zt b B) := (HS.out.go hb4).go hA
    clear hb4 hA
    go_upto_region 8 with fail
    generalize (w4.alloc (.cells #[.int .i64 (gP D.G j), .int .i64 (gM D.G j)] 144)) = w5 at *
    generalize w4.heap.size = zl1 at *
    obtain ⟨q0, q1⟩ := get2 HL1.out
    by_cases hd : gM D.G j = 0
    · have e1 : (gM D.G j == 0) = true := by simp [hd]
      have HN1 : Hid (∃ b B, Fl D.G D.H (j + 1) B ∧ FS Y v D w w5 zt b B) := ⟨b, B, .skip HF.out (HM0.out hd), HS.out⟩
      clear hd HS HF HL1
      go_wp2
      go_roundw
      case rel => exact ⟨j + 1, by omega, by go_num, HN1.out⟩
      case measure => simp [intOf]; omega
    have e1 : (gM D.G j == 0) = false := by simp [hd]
    clear hd
    rw [HYP.out] at q0
    obtain ⟨p0, p1, p2, p3⟩ := get4 HS.out.arg
    go_wp2_with fail
    clear p0 p1 p2 p3 q0 q1 e1
    refine (l6FindB_any v.h D.H y Y _ HG.out.h hy16 HS.out.at_.h).mono ?_
    rintro e w6 ⟨rfl, hb6⟩
    have hA : Blw w6 (w6.alloc (.cells #[.int .i64 (gP D.H y), .int .i64 (gM D.H y)] 144)) := (Blw.refl _).alloc _
    have HL2 : Hid (Row (w6.alloc (.cells #[.int .i64 (gP D.H y), .int .i64 (gM D.H y)] 144)) w6.heap.size 2 (fun i => if i = 0 then .int .i64 (gP D.H y) else .int .i64 (gM D.H y))) := box2 w6 _ _ 144
    replace HS : Hid (FS Y v D w (w6.alloc (.cells #[.int .i64 (gP D.H y), .int .i64 (gM D.H y)] 144)) zt b B) := (HS.out.go hb6).go hA
    replace HL1 : Hid (Row (w6.alloc (.cells #[.int .i64 (gP D.H y), .int .i64 (gM D.H y)] 144)) zl1 2 (fun i => if i = 0 then .int .i64 (gP D.G j) else .int .i64 (gM D.G j))) := (HL1.out.blw hb6).blw hA
    clear hb6 hA
    go_upto_region 10 with fail
    generalize (w6.alloc (.cells #[.int .i64 (gP D.H y), .int .i64 (gM D.H y)] 144)) = w7 at *
    generalize w6.heap.size = zl2 at *
    obtain ⟨q0, q1⟩ := get2 HL1.out
    obtain ⟨r0, r1⟩ := get2 HL2.out
    go_upto_region 11 with fail
    clear q0 q1 r1 HL1
    have hfy := fY_ok HG.out hlt
    have hfx := fX_ok HG.out hlt
    rw [show bits .and .i64 (gM D.G j) (gM D.H y) = fY D.G D.H j from HFY.out]
    by_cases hd : fY D.G D.H j = 0
    · have e1 : decide (fY D.G D.H j > 0) = false := by simp; omega
      have HN1 : Hid (∃ b B, Fl D.G D.H (j + 1) B ∧ FS Y v D w w7 zt b B) := ⟨b, B, .skip HF.out hd, HS.out⟩
      clear hd HS HF HL2 hfy hfx r0
      go_wp2
      go_roundw
      case rel => exact ⟨j + 1, by omega, by go_num, HN1.out⟩
      case measure => simp [intOf]; omega
    have e1 : decide (fY D.G D.H j > 0) = true := by simp; omega
    have OK : Hid (FlOK D.G D.H j B) := HF.out.ok HG.out (by omega)
    have HD : Hid (¬ fY D.G D.H j = 0) := hd
    have HCH : Hid (chOK B (j : Int) (fun _ oy => oy = 0 ∧ pgOK (fX D.G D.H j) ∧ mayOK (fY D.G D.H j))) := ⟨OK.out.good, ⟨by omega, by omega⟩, by
      rw [Int.toNat_natCast]
      exact ⟨(HF.out.free HG.out hlt).1, hfx, by omega, hfy.2⟩, by rw [Int.toNat_natCast]; exact HF.out.can HG.out hlt⟩
    obtain ⟨s0, s1⟩ := get2 HS.out.box
    rw [show gP D.H y = fX D.G D.H j from HFX.out] at r0
    clear hd hfy hfx HL2
    go_wp2_with fail
    clear s0 s1 r0 e1
    refine (specMap_any b B (j : Int) (fX D.G D.H j) (fY D.G D.H j) _ _ (by rw [OK.out.good.n]; omega) HS.out.own.at).mono ?_
    rintro e w8 ⟨b8, R8, r8, rfl, ho, hs8, own8, hb8⟩
    have HO : Hid (∃ q, goes B.c B.D.n (j / 4) q ∧ R8 = chB B j q (fX D.G D.H j) (fY D.G D.H j)) := by
      rcases ho with ⟨_, ⟨q, hq, e⟩, _⟩ | ⟨hn, _, _⟩
      · rw [Int.toNat_natCast] at hq e; exact ⟨q, hq, e⟩
      · exact absurd HCH.out hn
    have hA : Blw w8 (w8.alloc (.cells #[.slice b8.a1 R8.n b8.c1, .slice b8.a2 R8.D.n b8.c2] 29)) := (Blw.refl _).alloc _
    have HL8 : Hid (Row (w8.alloc (.cells #[.slice b8.a1 R8.n b8.c1, .slice b8.a2 R8.D.n b8.c2] 29)) w8.heap.size 2 (fun i => if i = 0 then .slice b8.a1 R8.n b8.c1 else .slice b8.a2 R8.D.n b8.c2)) := box2 w8 _ _ 29
    have hs78 := hb8.size
    have hlo7 := HS.out.box.lt
    have hlo := HS.out.lo
    have hsA : (w8.alloc (.cells #[.slice b8.a1 R8.n b8.c1, .slice b8.a2 R8.D.n b8.c2] 29)).heap.size = w8.heap.size + 1 := by simp
    have HSN : Hid (FS Y v D w (((w8.alloc (.cells #[.slice b8.a1 R8.n b8.c1, .slice b8.a2 R8.D.n b8.c2] 29)).setCell ⟨zt, 0, none⟩ (.slice b8.a1 R8.n b8.c1)).setCell ⟨zt, 1, none⟩ (.slice b8.a2 R8.D.n b8.c2)) zt b8 R8) := ((HS.out.go hb8).go hA).set HYY.out (own8.blw hA) (fun x hx => ⟨by omega, by omega, by omega⟩)
    have HNX : Hid (∃ b B, Fl D.G D.H (j + 1) B ∧ FS Y v D w (((w8.alloc (.cells #[.slice b8.a1 R8.n b8.c1, .slice b8.a2 R8.D.n b8.c2] 29)).setCell ⟨zt, 0, none⟩ (.slice b8.a1 R8.n b8.c1)).setCell ⟨zt, 1, none⟩ (.slice b8.a2 R8.D.n b8.c2)) zt b B) := by
      obtain ⟨q, hq, e⟩ := HO.out
      exact ⟨b8, R8, by rw [e]; exact .put HF.out HD.out hq, HSN.out⟩
    replace HS : Hid (FS Y v D w (w8.alloc (.cells #[.slice b8.a1 R8.n b8.c1, .slice b8.a2 R8.D.n b8.c2] 29)) zt b B) := (HS.out.go hb8).go hA
    clear ho own8 hb8 hA hs78 hlo7 hlo HO HCH HSN hsA hs8
    obtain ⟨s0, s1⟩ := get2 HS.out.box
    have g0 := HS.out.box.frozen 0
    have g1 := HS.out.box.frozen 1
    obtain ⟨u0, u1⟩ := get2 HL8.out
    clear HS HF OK HL8
    go_wp2
    go_roundw
    case rel => exact ⟨j + 1, by omega, by go_num, HNX.out⟩
    case measure => simp [intOf]; omega
end Go.Proofs.Ytjplodenflkghaa
