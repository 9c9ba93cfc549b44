/- A table without a leaf: the program's. -/
import Derived.Test.YtjplodenflkghaaChg
namespace Go.Proofs.Ytjplodenflkghaa
open Go.RowKit
set_option linter.unusedSimpArgs false
set_option linter.unusedVariables false
set_option maxRecDepth 10000 in
set_option maxHeartbeats 6400000 in
theorem changeUnmap_any (b : BV) (B : BD) (a : Int) (Y : Nat → Prop) (w : World) (h : BookAt Y w b B) (hY : ∀ x, Y x → x < w.heap.size) :
    Calls Try.prog 203 #[b.val B, .int .i64 a, .func (.func 205) #[] #[]] w (GivesB (chOut B a (fun _ oy => ¬ oy = 0) (fun _ => 0) 0) w) := by
  have hA1 : Blw w (w.alloc (.cells #[.slice b.a1 B.n b.c1, .slice b.a2 B.D.n b.c2] 29)) := (Blw.refl _).alloc _
  have hA2 : Blw (w.alloc (.cells #[.slice b.a1 B.n b.c1, .slice b.a2 B.D.n b.c2] 29)) ((w.alloc (.cells #[.slice b.a1 B.n b.c1, .slice b.a2 B.D.n b.c2] 29)).alloc (.cells #[.slice none 0 0, .slice none 0 0] 29)) := (Blw.refl _).alloc _
  have HB : Hid (Blw w ((w.alloc (.cells #[.slice b.a1 B.n b.c1, .slice b.a2 B.D.n b.c2] 29)).alloc (.cells #[.slice none 0 0, .slice none 0 0] 29))) := hA1.trans hA2
  have rR := box2 (w.alloc (.cells #[.slice b.a1 B.n b.c1, .slice b.a2 B.D.n b.c2] 29)) (.slice none 0 0) (.slice none 0 0) 29
  rw [World.size_alloc] at rR
  have HR : Hid (Row ((w.alloc (.cells #[.slice b.a1 B.n b.c1, .slice b.a2 B.D.n b.c2] 29)).alloc (.cells #[.slice none 0 0, .slice none 0 0] 29)) (w.heap.size + 1) 2 (fun i => if i = 0 then .slice none 0 0 else .slice none 0 0)) := rR
  have HA : Hid (BookAt Y ((w.alloc (.cells #[.slice b.a1 B.n b.c1, .slice b.a2 B.D.n b.c2] 29)).alloc (.cells #[.slice none 0 0, .slice none 0 0] 29)) b B) := h.blw (hA1.trans hA2)
  have hsz : ((w.alloc (.cells #[.slice b.a1 B.n b.c1, .slice b.a2 B.D.n b.c2] 29)).alloc (.cells #[.slice none 0 0, .slice none 0 0] 29)).heap.size = w.heap.size + 1 + 1 := by simp
  clear hA1 hA2 rR h 
  go_enter Try.func203, Try.ntmps203
  go_wp2_with fail
  refine (hold_any b B Y _ HA.out (fun x hx => by have := hY x hx; simp; omega)).mono ?_
  rintro e w1 ⟨h1, hb1⟩
  replace HR : Hid (Row w1 (w.heap.size + 1) 2 (fun i => if i = 0 then .slice none 0 0 else .slice none 0 0)) := HR.out.blw hb1
  replace HB : Hid (Blw w w1) := HB.out.trans hb1
  have HZ : Hid (w.heap.size + 1 + 1 ≤ w1.heap.size) := by have := hb1.size; show _ ≤ _; omega
  clear hb1 HA hsz
  rcases h1 with ⟨z, hg, rfl, hrow, hlo⟩ | ⟨hg, rfl⟩
  case inr =>
    have HG : Hid (¬ B.Good) := hg
    clear hg
    go_upto_region 3 with fail
    replace HR : Hid (Row (w1.alloc (.cells zero5 129)) (w.heap.size + 1) 2 (fun i => if i = 0 then .slice none 0 0 else .slice none 0 0)) := HR.out.blw ((Blw.refl _).alloc _)
    replace HB : Hid (Blw w (w1.alloc (.cells zero5 129))) := HB.out.alloc _
    clear HZ
    generalize w1.alloc (.cells zero5 129) = w2 at *
    obtain ⟨t0, t1⟩ := get2 HR.out
    have f0 := HR.out.frozen 0
    have f1 := HR.out.frozen 1
    clear HR 
    go_wp2
    exact bodyPost_ret (v := .tuple #[BV.zero.val BD.zero, .bool false]) (by simp [results, Try.results203, go_sem, t0, t1]) rfl (zero_givesT (z := w.heap.size + 1) (by omega) (Or.inr ⟨fun q => HG.out q.1, rfl, rfl⟩) HB.out)
  have HG : Hid B.Good := hg
  obtain ⟨n, c, ⟨kn, len, p, m⟩⟩ := B
  obtain ⟨a1, a2, q1, q2⟩ := b
  have hn4 : n = 4 := HG.out.n
  subst hn4
  have hk4 : kn ≤ 4 := HG.out.k.2
  simp only [BV.val] at *
  have hA : Blw w1 (w1.alloc (.cells (held5 c z kn) 129)) := (Blw.refl _).alloc _
  have H5 : Hid (Row (w1.alloc (.cells (held5 c z kn) 129)) w1.heap.size 5 (row5f c (.slice (some ⟨z, 0, none⟩) kn kn))) := row5 w1 (.int .i64 (c 0)) (.int .i64 (c 1)) (.int .i64 (c 2)) (.int .i64 (c 3)) (.slice (some ⟨z, 0, none⟩) kn kn) 129
  have HL : Hid (Row (w1.alloc (.cells (held5 c z kn) 129)) z (kn * 8) (lc p m)) := hrow.blw hA
  have hzz : w1.heap.size ≠ z := by have := hrow.lt; omega
  have hzl : z < w1.heap.size := hrow.lt
  have HLO : Hid (w.heap.size + 1 < z) := by show _ < _; simp only [World.size_alloc] at hlo; omega
  replace HR : Hid (Row (w1.alloc (.cells (held5 c z kn) 129)) (w.heap.size + 1) 2 (fun i => if i = 0 then .slice none 0 0 else .slice none 0 0)) := HR.out.blw hA
  replace HB : Hid (Blw w (w1.alloc (.cells (held5 c z kn) 129))) := HB.out.trans hA
  clear hg hA hrow hlo
  go_wp2_with fail
  generalize w1.alloc (.cells (held5 c z kn) 129) = w2 at *
  generalize w1.heap.size = zb at *
  refine (isPlace_any a _).mono ?_
  rintro e w2 ⟨r, rfl, hr, rfl⟩
  have HT : Hid (r = true ↔ pgOK a) := hr
  clear hr
  cases r
  · have HN : Hid (¬ pgOK a) := fun g => by have := HT.out.2 g; simp at this
    clear HT
    obtain ⟨t0, t1⟩ := get2 HR.out
    have f0 := HR.out.frozen 0
    have f1 := HR.out.frozen 1
    clear HR 
    go_wp2
    exact bodyPost_ret (v := .tuple #[BV.zero.val BD.zero, .bool false]) (by simp [results, Try.results203, go_sem, t0, t1]) rfl (zero_givesT (z := w.heap.size + 1) (by omega) (Or.inr ⟨fun q => HN.out q.2.1, rfl, rfl⟩) HB.out)
  have H1 : Hid (pgOK a) := HT.out.1 (by first | rfl | trivial)
  clear HT
  obtain ⟨x, hx, hx16⟩ : ∃ x : Nat, a = x ∧ x < 16 := ⟨a.toNat, by have := H1.out; unfold pgOK at this; omega, by have := H1.out; unfold pgOK at this; omega⟩
  subst hx
  obtain ⟨p0, p1, p2, p3, p4⟩ := get5 H5.out
  go_wp2_with fail
  clear p0 p1 p2 p3 p4
  refine (leafAt_any c z kn p m x _ hk4 (fun i hi => HG.out.top i hi) hx16 HL.out).mono ?_
  rintro e w3 ⟨rfl, hb2⟩
  replace HR : Hid (Row w3 (w.heap.size + 1) 2 (fun i => if i = 0 then .slice none 0 0 else .slice none 0 0)) := HR.out.blw hb2
  replace HB : Hid (Blw w w3) := HB.out.trans hb2
  replace H5 : Hid (Row w3 zb 5 (row5f c (.slice (some ⟨z, 0, none⟩) kn kn))) := H5.out.blw hb2
  replace HL : Hid (Row w3 z (kn * 8) (lc p m)) := HL.out.blw hb2
  clear hb2
  go_wp2_with fail
  obtain ⟨ox, hox⟩ : ∃ ox, ox = lfP c p x := ⟨_, rfl⟩
  obtain ⟨oy, hoy⟩ : ∃ oy, oy = lfP c m x := ⟨_, rfl⟩
  rw [← hox, ← hoy]
  have HOX : Hid (ox = lfP c p x) := hox
  have HOY : Hid (oy = lfP c m x) := hoy
  clear hox hoy
  refine (unmapFn_any ox oy _).mono ?_
  rintro e w4 ⟨r, rfl, hr, hb3⟩
  replace HR : Hid (Row w4 (w.heap.size + 1) 2 (fun i => if i = 0 then .slice none 0 0 else .slice none 0 0)) := HR.out.blw hb3
  replace HB : Hid (Blw w w4) := HB.out.trans hb3
  replace H5 : Hid (Row w4 zb 5 (row5f c (.slice (some ⟨z, 0, none⟩) kn kn))) := H5.out.blw hb3
  replace HL : Hid (Row w4 z (kn * 8) (lc p m)) := HL.out.blw hb3
  have HT : Hid (r = true ↔ (fun _ oy => ¬ oy = 0) ox oy) := hr
  clear hr hb3
  have hA : Blw w4 (w4.alloc (.cells #[.int .i64 0, .int .i64 0] 144)) := (Blw.refl _).alloc _
  have HLF : Hid (Row (w4.alloc (.cells #[.int .i64 0, .int .i64 0] 144)) w4.heap.size 2 (fun i => if i = 0 then .int .i64 0 else .int .i64 0)) := box2 w4 _ _ 144
  replace HR : Hid (Row (w4.alloc (.cells #[.int .i64 0, .int .i64 0] 144)) (w.heap.size + 1) 2 (fun i => if i = 0 then .slice none 0 0 else .slice none 0 0)) := HR.out.blw hA
  replace HB : Hid (Blw w (w4.alloc (.cells #[.int .i64 0, .int .i64 0] 144))) := HB.out.trans hA
  replace H5 : Hid (Row (w4.alloc (.cells #[.int .i64 0, .int .i64 0] 144)) zb 5 (row5f c (.slice (some ⟨z, 0, none⟩) kn kn))) := H5.out.blw hA
  replace HL : Hid (Row (w4.alloc (.cells #[.int .i64 0, .int .i64 0] 144)) z (kn * 8) (lc p m)) := HL.out.blw hA
  clear hA
  cases r
  · have HN : Hid (¬ (fun _ oy => ¬ oy = 0) ox oy) := fun g => by have := HT.out.2 g; simp at this
    clear HT
    go_upto_region 6 with fail
    generalize w4.alloc (.cells #[.int .i64 0, .int .i64 0] 144) = w5 at *
    obtain ⟨t0, t1⟩ := get2 HR.out
    have f0 := HR.out.frozen 0
    have f1 := HR.out.frozen 1
    clear HR 
    go_wp2
    exact bodyPost_ret (v := .tuple #[BV.zero.val BD.zero, .bool false]) (by simp [results, Try.results203, go_sem, t0, t1]) rfl (zero_givesT (z := w.heap.size + 1) (by omega) (Or.inr ⟨fun q => HN.out (by have h3 : (fun _ oy => ¬ oy = 0) (lfP c p x) (lfP c m x) := q.2.2.1; simp only [← HOX.out, ← HOY.out] at h3; exact h3), rfl, rfl⟩) HB.out)
  have H2 : Hid ((fun _ oy => ¬ oy = 0) ox oy) := HT.out.1 (by first | rfl | trivial)
  clear HT
  obtain ⟨s0, s1⟩ := get2 HLF.out
  go_wp2_with fail
  generalize w4.alloc (.cells #[.int .i64 0, .int .i64 0] 144) = w5 at *
  clear s0 s1
  refine (put_any c z kn p m zb x _ _ _ hk4 (fun i hi => HG.out.top i hi) hx16 hzz H5.out HL.out).mono ?_
  rintro e w6 (⟨q, hgo, rfl, h5, hl, hm⟩ | ⟨hno, rfl, hb⟩)
  · have hz1 := HZ.out
    have hz2 := HLO.out
    replace HR : Hid (Row w6 (w.heap.size + 1) 2 (fun i => if i = 0 then .slice none 0 0 else .slice none 0 0)) := HR.out.mod hm (by omega)
    replace HB : Hid (Blw w w6) := Mod.blw HB.out hm (fun i hi => by omega)
    have HOUT : Hid ((chOut ⟨4, c, ⟨kn, len, p, m⟩⟩ (x : Int) (fun _ oy => ¬ oy = 0) (fun _ => 0) 0) (chB ⟨4, c, ⟨kn, len, p, m⟩⟩ x q 0 0) true) := Or.inl ⟨⟨HG.out, H1.out, by rw [Int.toNat_natCast, ← HOX.out, ← HOY.out]; exact H2.out, q, by rw [Int.toNat_natCast]; exact hgo⟩, ⟨q, by rw [Int.toNat_natCast]; exact hgo, by rw [Int.toNat_natCast, ← HOX.out]⟩, rfl⟩
    unfold chB at HOUT
    dsimp only at HOUT
    generalize topsOf c (x / 4) q (upd2 p q (x % 4) 0 q) (upd2 m q (x % 4) 0 q) = c' at *
    generalize upd2 p q (x % 4) 0 = p' at *
    generalize upd2 m q (x % 4) 0 = m' at *
    obtain ⟨s0, s1, s2, s3, s4⟩ := get5 h5
    clear hgo h5 hm H5 HL HLF H2 HOX HOY 
    go_wp2_with fail
    clear s0 s1 s2 s3 s4
    refine (giveOut_any c' z kn p' m' _ hk4 hl).mono ?_
    rintro e w7 ⟨b7, rfl, own, hb7⟩
    have h67 := HB.out.size
    have hzr := HR.out.lt
    have FIN : Hid _ := fin_givesT (out := (chOut ⟨4, c, ⟨kn, len, p, m⟩⟩ (x : Int) (fun _ oy => ¬ oy = 0) (fun _ => 0) 0)) (w := w) (W := w7) (z := w.heap.size + 1) (b := b7) (R := ⟨4, c', ⟨kn, fun _ => 4, p', m'⟩⟩) (by omega) HOUT.out (tot4 (c := c') hk4) (HB.out.trans hb7) own (fun x hx => ⟨by omega, by omega, hx.2⟩)
    obtain ⟨t0, t1⟩ := get2 (HR.out.blw hb7)
    have f0 := (HR.out.blw hb7).frozen 0
    have f1 := (HR.out.blw hb7).frozen 1
    clear own hb7 HR HB hz1 hz2 h67 hzr hl HOUT
    go_wp2
    exact bodyPost_ret (v := .tuple #[b7.val ⟨4, c', ⟨kn, fun _ => 4, p', m'⟩⟩, .bool true]) (by simp [results, Try.results203, go_sem, t0, t1]) rfl FIN.out
  · have HN : Hid (¬ ∃ q, goes c kn (x / 4) q) := hno
    replace HR : Hid (Row w6 (w.heap.size + 1) 2 (fun i => if i = 0 then .slice none 0 0 else .slice none 0 0)) := HR.out.blw hb
    replace HB : Hid (Blw w w6) := HB.out.trans hb
    clear hno hb H5 HL HLF HZ HLO
    obtain ⟨t0, t1⟩ := get2 HR.out
    have f0 := HR.out.frozen 0
    have f1 := HR.out.frozen 1
    clear HR 
    go_wp2
    exact bodyPost_ret (v := .tuple #[BV.zero.val BD.zero, .bool false]) (by simp [results, Try.results203, go_sem, t0, t1]) rfl (zero_givesT (z := w.heap.size + 1) (by omega) (Or.inr ⟨fun q => HN.out (by have := q.2.2.2; rw [Int.toNat_natCast] at this; exact this), rfl, rfl⟩) HB.out)
end Go.Proofs.Ytjplodenflkghaa
