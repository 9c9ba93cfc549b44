/- Merged by program, in this order: Chg, ChgU, ChgP, ImplM, OwnS, OT, MappedJ, SpecPr. -/
import Derived.Test.YtbpdopcdhnemfaaJw3
/- A table with another leaf: the program's. -/
namespace Go.Proofs.Ytbpdopcdhnemfaa
open Go.RowKit
set_option linter.unusedSimpArgs false
set_option linter.unusedVariables false
/-- A table with another leaf at place x, in list q. -/
noncomputable def chB (B : BD) (x q : Nat) (g y : Int) : BD := ⟨4, topsOf B.c (x / 4) q (upd2 B.D.p q (x % 4) g q) (upd2 B.D.m q (x % 4) y q), ⟨B.D.n, fun _ => 4, upd2 B.D.p q (x % 4) g, upd2 B.D.m q (x % 4) y⟩⟩
/-- What may be changed: P of the old leaf, and a list to come into. -/
def chOK (B : BD) (a : Int) (P : Int → Int → Prop) : Prop := B.Good ∧ pgOK a ∧ P (lfP B.c B.D.p a.toNat) (lfP B.c B.D.m a.toNat) ∧ ∃ q, goes B.c B.D.n (a.toNat / 4) q
def chOut (B : BD) (a : Int) (P : Int → Int → Prop) (G : Int → Int) (y : Int) (R : BD) (r : Bool) : Prop :=
  (chOK B a P ∧ (∃ q, goes B.c B.D.n (a.toNat / 4) q ∧ R = chB B a.toNat q (G (lfP B.c B.D.p a.toNat)) y) ∧ r = true) ∨ (¬ chOK B a P ∧ R = BD.zero ∧ r = false)
theorem chOut_same {B : BD} {a : Int} {P : Int → Int → Prop} {G : Int → Int} {y : Int} {R R' : BD} {r r' : Bool} (h : chOut B a P G y R r) (h' : chOut B a P G y R' r') : R = R' ∧ r = r' := by
  rcases h with ⟨g, ⟨q, hq, rfl⟩, rfl⟩ | ⟨g, rfl, rfl⟩ <;> rcases h' with ⟨g', ⟨q', hq', rfl⟩, rfl⟩ | ⟨g', rfl, rfl⟩
  · rw [goes_uniq hq hq']; exact ⟨rfl, rfl⟩
  · exact absurd g g'
  · exact absurd g' g
  · exact ⟨rfl, rfl⟩
set_option maxRecDepth 10000 in
set_option maxHeartbeats 6400000 in
theorem changeMap_any (b : BV) (B : BD) (a g y : Int) (b1 b2 : Nat) (Y : Nat → Prop) (w : World) (h : BookAt Y w b B) (hY : ∀ x, Y x → x < w.heap.size) (hb1 : Row w b1 1 (fun _ => .int .i64 g)) (hb2 : Row w b2 1 (fun _ => .int .i64 y)) :
    Calls Try.prog 206 #[b.val B, .int .i64 a, .func (.func 207) #[] #[.pointer (some ⟨b1, 0, none⟩), .pointer (some ⟨b2, 0, none⟩)]] w (GivesB (chOut B a (fun _ oy => oy = 0 ∧ pgOK g ∧ mayOK y) (fun _ => g) y) w) := by
  have hA1 : Blw w (w.alloc (.cells #[.slice b.a1 B.n b.c1, .slice b.a2 B.D.n b.c2] 29)) := (Blw.refl _).alloc _
  have hA2 : Blw (w.alloc (.cells #[.slice b.a1 B.n b.c1, .slice b.a2 B.D.n b.c2] 29)) ((w.alloc (.cells #[.slice b.a1 B.n b.c1, .slice b.a2 B.D.n b.c2] 29)).alloc (.cells #[.slice none 0 0, .slice none 0 0] 29)) := (Blw.refl _).alloc _
  have HB : Hid (Blw w ((w.alloc (.cells #[.slice b.a1 B.n b.c1, .slice b.a2 B.D.n b.c2] 29)).alloc (.cells #[.slice none 0 0, .slice none 0 0] 29))) := hA1.trans hA2
  have rR := box2 (w.alloc (.cells #[.slice b.a1 B.n b.c1, .slice b.a2 B.D.n b.c2] 29)) (.slice none 0 0) (.slice none 0 0) 29
  rw [World.size_alloc] at rR
  have HR : Hid (Row ((w.alloc (.cells #[.slice b.a1 B.n b.c1, .slice b.a2 B.D.n b.c2] 29)).alloc (.cells #[.slice none 0 0, .slice none 0 0] 29)) (w.heap.size + 1) 2 (fun i => if i = 0 then .slice none 0 0 else .slice none 0 0)) := rR
  have HA : Hid (BookAt Y ((w.alloc (.cells #[.slice b.a1 B.n b.c1, .slice b.a2 B.D.n b.c2] 29)).alloc (.cells #[.slice none 0 0, .slice none 0 0] 29)) b B) := h.blw (hA1.trans hA2)
  have hsz : ((w.alloc (.cells #[.slice b.a1 B.n b.c1, .slice b.a2 B.D.n b.c2] 29)).alloc (.cells #[.slice none 0 0, .slice none 0 0] 29)).heap.size = w.heap.size + 1 + 1 := by simp
  have Hb1 : Hid (Row ((w.alloc (.cells #[.slice b.a1 B.n b.c1, .slice b.a2 B.D.n b.c2] 29)).alloc (.cells #[.slice none 0 0, .slice none 0 0] 29)) b1 1 (fun _ => .int .i64 g)) := hb1.blw (hA1.trans hA2)
  have Hb2 : Hid (Row ((w.alloc (.cells #[.slice b.a1 B.n b.c1, .slice b.a2 B.D.n b.c2] 29)).alloc (.cells #[.slice none 0 0, .slice none 0 0] 29)) b2 1 (fun _ => .int .i64 y)) := hb2.blw (hA1.trans hA2)
  clear hA1 hA2 rR h hb1 hb2
  go_enter Try.func206, Try.ntmps206
  go_wp2_with fail
  refine (hold_any b B Y _ HA.out (fun x hx => by have := hY x hx; simp; omega)).mono ?_
  rintro e w1 ⟨h1, hb1⟩
  replace HR : Hid (Row w1 (w.heap.size + 1) 2 (fun i => if i = 0 then .slice none 0 0 else .slice none 0 0)) := HR.out.blw hb1
  replace Hb1 : Hid (Row w1 b1 1 (fun _ => .int .i64 g)) := Hb1.out.blw hb1
  replace Hb2 : Hid (Row w1 b2 1 (fun _ => .int .i64 y)) := Hb2.out.blw hb1
  replace HB : Hid (Blw w w1) := HB.out.trans hb1
  have HZ : Hid (w.heap.size + 1 + 1 ≤ w1.heap.size) := by have := hb1.size; show _ ≤ _; omega
  clear hb1 HA hsz
  rcases h1 with ⟨z, hg, rfl, hrow, hlo⟩ | ⟨hg, rfl⟩
  case inr =>
    have HG : Hid (¬ B.Good) := hg
    clear hg
    go_upto_region 3 with fail
    replace HR : Hid (Row (w1.alloc (.cells zero5 136)) (w.heap.size + 1) 2 (fun i => if i = 0 then .slice none 0 0 else .slice none 0 0)) := HR.out.blw ((Blw.refl _).alloc _)
    replace Hb1 : Hid (Row (w1.alloc (.cells zero5 136)) b1 1 (fun _ => .int .i64 g)) := Hb1.out.blw ((Blw.refl _).alloc _)
    replace Hb2 : Hid (Row (w1.alloc (.cells zero5 136)) b2 1 (fun _ => .int .i64 y)) := Hb2.out.blw ((Blw.refl _).alloc _)
    replace HB : Hid (Blw w (w1.alloc (.cells zero5 136))) := HB.out.alloc _
    clear HZ
    generalize w1.alloc (.cells zero5 136) = w2 at *
    obtain ⟨t0, t1⟩ := get2 HR.out
    have f0 := HR.out.frozen 0
    have f1 := HR.out.frozen 1
    clear HR Hb1 Hb2
    go_wp2
    exact bodyPost_ret (v := .tuple #[BV.zero.val BD.zero, .bool false]) (by simp [results, Try.results206, go_sem, t0, t1]) rfl (zero_givesT (z := w.heap.size + 1) (by omega) (Or.inr ⟨fun q => HG.out q.1, rfl, rfl⟩) HB.out)
  have HG : Hid B.Good := hg
  obtain ⟨n, c, ⟨kn, len, p, m⟩⟩ := B
  obtain ⟨a1, a2, q1, q2⟩ := b
  have hn4 : n = 4 := HG.out.n
  subst hn4
  have hk4 : kn ≤ 4 := HG.out.k.2
  simp only [BV.val] at *
  have hA : Blw w1 (w1.alloc (.cells (held5 c z kn) 136)) := (Blw.refl _).alloc _
  have H5 : Hid (Row (w1.alloc (.cells (held5 c z kn) 136)) w1.heap.size 5 (row5f c (.slice (some ⟨z, 0, none⟩) kn kn))) := row5 w1 (.int .i64 (c 0)) (.int .i64 (c 1)) (.int .i64 (c 2)) (.int .i64 (c 3)) (.slice (some ⟨z, 0, none⟩) kn kn) 136
  have HL : Hid (Row (w1.alloc (.cells (held5 c z kn) 136)) z (kn * 8) (lc p m)) := hrow.blw hA
  have hzz : w1.heap.size ≠ z := by have := hrow.lt; omega
  have hzl : z < w1.heap.size := hrow.lt
  have HLO : Hid (w.heap.size + 1 < z) := by show _ < _; simp only [World.size_alloc] at hlo; omega
  replace HR : Hid (Row (w1.alloc (.cells (held5 c z kn) 136)) (w.heap.size + 1) 2 (fun i => if i = 0 then .slice none 0 0 else .slice none 0 0)) := HR.out.blw hA
  replace Hb1 : Hid (Row (w1.alloc (.cells (held5 c z kn) 136)) b1 1 (fun _ => .int .i64 g)) := Hb1.out.blw hA
  replace Hb2 : Hid (Row (w1.alloc (.cells (held5 c z kn) 136)) b2 1 (fun _ => .int .i64 y)) := Hb2.out.blw hA
  replace HB : Hid (Blw w (w1.alloc (.cells (held5 c z kn) 136))) := HB.out.trans hA
  clear hg hA hrow hlo
  go_wp2_with fail
  generalize w1.alloc (.cells (held5 c z kn) 136) = w2 at *
  generalize w1.heap.size = zb at *
  refine (isPlace_any a _).mono ?_
  rintro e w2 ⟨r, rfl, hr, rfl⟩
  have HT : Hid (r = true ↔ pgOK a) := hr
  clear hr
  cases r
  · have HN : Hid (¬ pgOK a) := fun g => by have := HT.out.2 g; simp at this
    clear HT
    obtain ⟨t0, t1⟩ := get2 HR.out
    have f0 := HR.out.frozen 0
    have f1 := HR.out.frozen 1
    clear HR Hb1 Hb2
    go_wp2
    exact bodyPost_ret (v := .tuple #[BV.zero.val BD.zero, .bool false]) (by simp [results, Try.results206, go_sem, t0, t1]) rfl (zero_givesT (z := w.heap.size + 1) (by omega) (Or.inr ⟨fun q => HN.out q.2.1, rfl, rfl⟩) HB.out)
  have H1 : Hid (pgOK a) := HT.out.1 (by first | rfl | trivial)
  clear HT
  obtain ⟨x, hx, hx16⟩ : ∃ x : Nat, a = x ∧ x < 16 := ⟨a.toNat, by have := H1.out; unfold pgOK at this; omega, by have := H1.out; unfold pgOK at this; omega⟩
  subst hx
  obtain ⟨p0, p1, p2, p3, p4⟩ := get5 H5.out
  go_wp2_with fail
  clear p0 p1 p2 p3 p4
  refine (leafAt_any c z kn p m x _ hk4 (fun i hi => HG.out.top i hi) hx16 HL.out).mono ?_
  rintro e w3 ⟨rfl, hb2⟩
  replace HR : Hid (Row w3 (w.heap.size + 1) 2 (fun i => if i = 0 then .slice none 0 0 else .slice none 0 0)) := HR.out.blw hb2
  replace Hb1 : Hid (Row w3 b1 1 (fun _ => .int .i64 g)) := Hb1.out.blw hb2
  replace Hb2 : Hid (Row w3 b2 1 (fun _ => .int .i64 y)) := Hb2.out.blw hb2
  replace HB : Hid (Blw w w3) := HB.out.trans hb2
  replace H5 : Hid (Row w3 zb 5 (row5f c (.slice (some ⟨z, 0, none⟩) kn kn))) := H5.out.blw hb2
  replace HL : Hid (Row w3 z (kn * 8) (lc p m)) := HL.out.blw hb2
  clear hb2
  go_wp2_with fail
  obtain ⟨ox, hox⟩ : ∃ ox, ox = lfP c p x := ⟨_, rfl⟩
  obtain ⟨oy, hoy⟩ : ∃ oy, oy = lfP c m x := ⟨_, rfl⟩
  rw [← hox, ← hoy]
  have HOX : Hid (ox = lfP c p x) := hox
  have HOY : Hid (oy = lfP c m x) := hoy
  clear hox hoy
  refine (mapFn_any ox oy g y b1 b2 _ Hb1.out Hb2.out).mono ?_
  rintro e w4 ⟨r, rfl, hr, hb3⟩
  replace HR : Hid (Row w4 (w.heap.size + 1) 2 (fun i => if i = 0 then .slice none 0 0 else .slice none 0 0)) := HR.out.blw hb3
  replace Hb1 : Hid (Row w4 b1 1 (fun _ => .int .i64 g)) := Hb1.out.blw hb3
  replace Hb2 : Hid (Row w4 b2 1 (fun _ => .int .i64 y)) := Hb2.out.blw hb3
  replace HB : Hid (Blw w w4) := HB.out.trans hb3
  replace H5 : Hid (Row w4 zb 5 (row5f c (.slice (some ⟨z, 0, none⟩) kn kn))) := H5.out.blw hb3
  replace HL : Hid (Row w4 z (kn * 8) (lc p m)) := HL.out.blw hb3
  have HT : Hid (r = true ↔ (fun _ oy => oy = 0 ∧ pgOK g ∧ mayOK y) ox oy) := hr
  clear hr hb3
  have hA : Blw w4 (w4.alloc (.cells #[.int .i64 g, .int .i64 y] 189)) := (Blw.refl _).alloc _
  have HLF : Hid (Row (w4.alloc (.cells #[.int .i64 g, .int .i64 y] 189)) w4.heap.size 2 (fun i => if i = 0 then .int .i64 g else .int .i64 y)) := box2 w4 _ _ 189
  replace HR : Hid (Row (w4.alloc (.cells #[.int .i64 g, .int .i64 y] 189)) (w.heap.size + 1) 2 (fun i => if i = 0 then .slice none 0 0 else .slice none 0 0)) := HR.out.blw hA
  replace Hb1 : Hid (Row (w4.alloc (.cells #[.int .i64 g, .int .i64 y] 189)) b1 1 (fun _ => .int .i64 g)) := Hb1.out.blw hA
  replace Hb2 : Hid (Row (w4.alloc (.cells #[.int .i64 g, .int .i64 y] 189)) b2 1 (fun _ => .int .i64 y)) := Hb2.out.blw hA
  replace HB : Hid (Blw w (w4.alloc (.cells #[.int .i64 g, .int .i64 y] 189))) := HB.out.trans hA
  replace H5 : Hid (Row (w4.alloc (.cells #[.int .i64 g, .int .i64 y] 189)) zb 5 (row5f c (.slice (some ⟨z, 0, none⟩) kn kn))) := H5.out.blw hA
  replace HL : Hid (Row (w4.alloc (.cells #[.int .i64 g, .int .i64 y] 189)) z (kn * 8) (lc p m)) := HL.out.blw hA
  clear hA
  cases r
  · have HN : Hid (¬ (fun _ oy => oy = 0 ∧ pgOK g ∧ mayOK y) ox oy) := fun g => by have := HT.out.2 g; simp at this
    clear HT
    go_upto_region 6 with fail
    generalize w4.alloc (.cells #[.int .i64 g, .int .i64 y] 189) = w5 at *
    obtain ⟨t0, t1⟩ := get2 HR.out
    have f0 := HR.out.frozen 0
    have f1 := HR.out.frozen 1
    clear HR Hb1 Hb2
    go_wp2
    exact bodyPost_ret (v := .tuple #[BV.zero.val BD.zero, .bool false]) (by simp [results, Try.results206, go_sem, t0, t1]) rfl (zero_givesT (z := w.heap.size + 1) (by omega) (Or.inr ⟨fun q => HN.out (by have h3 : (fun _ oy => oy = 0 ∧ pgOK g ∧ mayOK y) (lfP c p x) (lfP c m x) := q.2.2.1; simp only [← HOX.out, ← HOY.out] at h3; exact h3), rfl, rfl⟩) HB.out)
  have H2 : Hid ((fun _ oy => oy = 0 ∧ pgOK g ∧ mayOK y) ox oy) := HT.out.1 (by first | rfl | trivial)
  clear HT
  obtain ⟨s0, s1⟩ := get2 HLF.out
  go_wp2_with fail
  generalize w4.alloc (.cells #[.int .i64 g, .int .i64 y] 189) = w5 at *
  clear s0 s1
  refine (put_any c z kn p m zb x _ _ _ hk4 (fun i hi => HG.out.top i hi) hx16 hzz H5.out HL.out).mono ?_
  rintro e w6 (⟨q, hgo, rfl, h5, hl, hm⟩ | ⟨hno, rfl, hb⟩)
  · have hz1 := HZ.out
    have hz2 := HLO.out
    replace HR : Hid (Row w6 (w.heap.size + 1) 2 (fun i => if i = 0 then .slice none 0 0 else .slice none 0 0)) := HR.out.mod hm (by omega)
    replace HB : Hid (Blw w w6) := Mod.blw HB.out hm (fun i hi => by omega)
    have HOUT : Hid ((chOut ⟨4, c, ⟨kn, len, p, m⟩⟩ (x : Int) (fun _ oy => oy = 0 ∧ pgOK g ∧ mayOK y) (fun _ => g) y) (chB ⟨4, c, ⟨kn, len, p, m⟩⟩ x q g y) true) := Or.inl ⟨⟨HG.out, H1.out, by rw [Int.toNat_natCast, ← HOX.out, ← HOY.out]; exact H2.out, q, by rw [Int.toNat_natCast]; exact hgo⟩, ⟨q, by rw [Int.toNat_natCast]; exact hgo, by rw [Int.toNat_natCast, ← HOX.out]⟩, rfl⟩
    unfold chB at HOUT
    dsimp only at HOUT
    generalize topsOf c (x / 4) q (upd2 p q (x % 4) g q) (upd2 m q (x % 4) y q) = c' at *
    generalize upd2 p q (x % 4) g = p' at *
    generalize upd2 m q (x % 4) y = m' at *
    obtain ⟨s0, s1, s2, s3, s4⟩ := get5 h5
    clear hgo h5 hm H5 HL HLF H2 HOX HOY Hb1 Hb2
    go_wp2_with fail
    clear s0 s1 s2 s3 s4
    refine (giveOut_any c' z kn p' m' _ hk4 hl).mono ?_
    rintro e w7 ⟨b7, rfl, own, hb7⟩
    have h67 := HB.out.size
    have hzr := HR.out.lt
    have FIN : Hid _ := fin_givesT (out := (chOut ⟨4, c, ⟨kn, len, p, m⟩⟩ (x : Int) (fun _ oy => oy = 0 ∧ pgOK g ∧ mayOK y) (fun _ => g) y)) (w := w) (W := w7) (z := w.heap.size + 1) (b := b7) (R := ⟨4, c', ⟨kn, fun _ => 4, p', m'⟩⟩) (by omega) HOUT.out (tot4 (c := c') hk4) (HB.out.trans hb7) own (fun x hx => ⟨by omega, by omega, hx.2⟩)
    obtain ⟨t0, t1⟩ := get2 (HR.out.blw hb7)
    have f0 := (HR.out.blw hb7).frozen 0
    have f1 := (HR.out.blw hb7).frozen 1
    clear own hb7 HR HB hz1 hz2 h67 hzr hl HOUT
    go_wp2
    exact bodyPost_ret (v := .tuple #[b7.val ⟨4, c', ⟨kn, fun _ => 4, p', m'⟩⟩, .bool true]) (by simp [results, Try.results206, go_sem, t0, t1]) rfl FIN.out
  · have HN : Hid (¬ ∃ q, goes c kn (x / 4) q) := hno
    replace HR : Hid (Row w6 (w.heap.size + 1) 2 (fun i => if i = 0 then .slice none 0 0 else .slice none 0 0)) := HR.out.blw hb
    replace HB : Hid (Blw w w6) := HB.out.trans hb
    clear hno hb H5 HL HLF HZ HLO
    obtain ⟨t0, t1⟩ := get2 HR.out
    have f0 := HR.out.frozen 0
    have f1 := HR.out.frozen 1
    clear HR Hb1 Hb2
    go_wp2
    exact bodyPost_ret (v := .tuple #[BV.zero.val BD.zero, .bool false]) (by simp [results, Try.results206, go_sem, t0, t1]) rfl (zero_givesT (z := w.heap.size + 1) (by omega) (Or.inr ⟨fun q => HN.out (by have := q.2.2.2; rw [Int.toNat_natCast] at this; exact this), rfl, rfl⟩) HB.out)
end Go.Proofs.Ytbpdopcdhnemfaa
/- A table without a leaf: the program's. -/
namespace Go.Proofs.Ytbpdopcdhnemfaa
open Go.RowKit
set_option linter.unusedSimpArgs false
set_option linter.unusedVariables false
set_option maxRecDepth 10000 in
set_option maxHeartbeats 6400000 in
theorem changeUnmap_any (b : BV) (B : BD) (a : Int) (Y : Nat → Prop) (w : World) (h : BookAt Y w b B) (hY : ∀ x, Y x → x < w.heap.size) :
    Calls Try.prog 206 #[b.val B, .int .i64 a, .func (.func 208) #[] #[]] w (GivesB (chOut B a (fun _ oy => ¬ oy = 0) (fun _ => 0) 0) w) := by
  have hA1 : Blw w (w.alloc (.cells #[.slice b.a1 B.n b.c1, .slice b.a2 B.D.n b.c2] 29)) := (Blw.refl _).alloc _
  have hA2 : Blw (w.alloc (.cells #[.slice b.a1 B.n b.c1, .slice b.a2 B.D.n b.c2] 29)) ((w.alloc (.cells #[.slice b.a1 B.n b.c1, .slice b.a2 B.D.n b.c2] 29)).alloc (.cells #[.slice none 0 0, .slice none 0 0] 29)) := (Blw.refl _).alloc _
  have HB : Hid (Blw w ((w.alloc (.cells #[.slice b.a1 B.n b.c1, .slice b.a2 B.D.n b.c2] 29)).alloc (.cells #[.slice none 0 0, .slice none 0 0] 29))) := hA1.trans hA2
  have rR := box2 (w.alloc (.cells #[.slice b.a1 B.n b.c1, .slice b.a2 B.D.n b.c2] 29)) (.slice none 0 0) (.slice none 0 0) 29
  rw [World.size_alloc] at rR
  have HR : Hid (Row ((w.alloc (.cells #[.slice b.a1 B.n b.c1, .slice b.a2 B.D.n b.c2] 29)).alloc (.cells #[.slice none 0 0, .slice none 0 0] 29)) (w.heap.size + 1) 2 (fun i => if i = 0 then .slice none 0 0 else .slice none 0 0)) := rR
  have HA : Hid (BookAt Y ((w.alloc (.cells #[.slice b.a1 B.n b.c1, .slice b.a2 B.D.n b.c2] 29)).alloc (.cells #[.slice none 0 0, .slice none 0 0] 29)) b B) := h.blw (hA1.trans hA2)
  have hsz : ((w.alloc (.cells #[.slice b.a1 B.n b.c1, .slice b.a2 B.D.n b.c2] 29)).alloc (.cells #[.slice none 0 0, .slice none 0 0] 29)).heap.size = w.heap.size + 1 + 1 := by simp
  clear hA1 hA2 rR h 
  go_enter Try.func206, Try.ntmps206
  go_wp2_with fail
  refine (hold_any b B Y _ HA.out (fun x hx => by have := hY x hx; simp; omega)).mono ?_
  rintro e w1 ⟨h1, hb1⟩
  replace HR : Hid (Row w1 (w.heap.size + 1) 2 (fun i => if i = 0 then .slice none 0 0 else .slice none 0 0)) := HR.out.blw hb1
  replace HB : Hid (Blw w w1) := HB.out.trans hb1
  have HZ : Hid (w.heap.size + 1 + 1 ≤ w1.heap.size) := by have := hb1.size; show _ ≤ _; omega
  clear hb1 HA hsz
  rcases h1 with ⟨z, hg, rfl, hrow, hlo⟩ | ⟨hg, rfl⟩
  case inr =>
    have HG : Hid (¬ B.Good) := hg
    clear hg
    go_upto_region 3 with fail
    replace HR : Hid (Row (w1.alloc (.cells zero5 136)) (w.heap.size + 1) 2 (fun i => if i = 0 then .slice none 0 0 else .slice none 0 0)) := HR.out.blw ((Blw.refl _).alloc _)
    replace HB : Hid (Blw w (w1.alloc (.cells zero5 136))) := HB.out.alloc _
    clear HZ
    generalize w1.alloc (.cells zero5 136) = w2 at *
    obtain ⟨t0, t1⟩ := get2 HR.out
    have f0 := HR.out.frozen 0
    have f1 := HR.out.frozen 1
    clear HR 
    go_wp2
    exact bodyPost_ret (v := .tuple #[BV.zero.val BD.zero, .bool false]) (by simp [results, Try.results206, go_sem, t0, t1]) rfl (zero_givesT (z := w.heap.size + 1) (by omega) (Or.inr ⟨fun q => HG.out q.1, rfl, rfl⟩) HB.out)
  have HG : Hid B.Good := hg
  obtain ⟨n, c, ⟨kn, len, p, m⟩⟩ := B
  obtain ⟨a1, a2, q1, q2⟩ := b
  have hn4 : n = 4 := HG.out.n
  subst hn4
  have hk4 : kn ≤ 4 := HG.out.k.2
  simp only [BV.val] at *
  have hA : Blw w1 (w1.alloc (.cells (held5 c z kn) 136)) := (Blw.refl _).alloc _
  have H5 : Hid (Row (w1.alloc (.cells (held5 c z kn) 136)) w1.heap.size 5 (row5f c (.slice (some ⟨z, 0, none⟩) kn kn))) := row5 w1 (.int .i64 (c 0)) (.int .i64 (c 1)) (.int .i64 (c 2)) (.int .i64 (c 3)) (.slice (some ⟨z, 0, none⟩) kn kn) 136
  have HL : Hid (Row (w1.alloc (.cells (held5 c z kn) 136)) z (kn * 8) (lc p m)) := hrow.blw hA
  have hzz : w1.heap.size ≠ z := by have := hrow.lt; omega
  have hzl : z < w1.heap.size := hrow.lt
  have HLO : Hid (w.heap.size + 1 < z) := by show _ < _; simp only [World.size_alloc] at hlo; omega
  replace HR : Hid (Row (w1.alloc (.cells (held5 c z kn) 136)) (w.heap.size + 1) 2 (fun i => if i = 0 then .slice none 0 0 else .slice none 0 0)) := HR.out.blw hA
  replace HB : Hid (Blw w (w1.alloc (.cells (held5 c z kn) 136))) := HB.out.trans hA
  clear hg hA hrow hlo
  go_wp2_with fail
  generalize w1.alloc (.cells (held5 c z kn) 136) = w2 at *
  generalize w1.heap.size = zb at *
  refine (isPlace_any a _).mono ?_
  rintro e w2 ⟨r, rfl, hr, rfl⟩
  have HT : Hid (r = true ↔ pgOK a) := hr
  clear hr
  cases r
  · have HN : Hid (¬ pgOK a) := fun g => by have := HT.out.2 g; simp at this
    clear HT
    obtain ⟨t0, t1⟩ := get2 HR.out
    have f0 := HR.out.frozen 0
    have f1 := HR.out.frozen 1
    clear HR 
    go_wp2
    exact bodyPost_ret (v := .tuple #[BV.zero.val BD.zero, .bool false]) (by simp [results, Try.results206, go_sem, t0, t1]) rfl (zero_givesT (z := w.heap.size + 1) (by omega) (Or.inr ⟨fun q => HN.out q.2.1, rfl, rfl⟩) HB.out)
  have H1 : Hid (pgOK a) := HT.out.1 (by first | rfl | trivial)
  clear HT
  obtain ⟨x, hx, hx16⟩ : ∃ x : Nat, a = x ∧ x < 16 := ⟨a.toNat, by have := H1.out; unfold pgOK at this; omega, by have := H1.out; unfold pgOK at this; omega⟩
  subst hx
  obtain ⟨p0, p1, p2, p3, p4⟩ := get5 H5.out
  go_wp2_with fail
  clear p0 p1 p2 p3 p4
  refine (leafAt_any c z kn p m x _ hk4 (fun i hi => HG.out.top i hi) hx16 HL.out).mono ?_
  rintro e w3 ⟨rfl, hb2⟩
  replace HR : Hid (Row w3 (w.heap.size + 1) 2 (fun i => if i = 0 then .slice none 0 0 else .slice none 0 0)) := HR.out.blw hb2
  replace HB : Hid (Blw w w3) := HB.out.trans hb2
  replace H5 : Hid (Row w3 zb 5 (row5f c (.slice (some ⟨z, 0, none⟩) kn kn))) := H5.out.blw hb2
  replace HL : Hid (Row w3 z (kn * 8) (lc p m)) := HL.out.blw hb2
  clear hb2
  go_wp2_with fail
  obtain ⟨ox, hox⟩ : ∃ ox, ox = lfP c p x := ⟨_, rfl⟩
  obtain ⟨oy, hoy⟩ : ∃ oy, oy = lfP c m x := ⟨_, rfl⟩
  rw [← hox, ← hoy]
  have HOX : Hid (ox = lfP c p x) := hox
  have HOY : Hid (oy = lfP c m x) := hoy
  clear hox hoy
  refine (unmapFn_any ox oy _).mono ?_
  rintro e w4 ⟨r, rfl, hr, hb3⟩
  replace HR : Hid (Row w4 (w.heap.size + 1) 2 (fun i => if i = 0 then .slice none 0 0 else .slice none 0 0)) := HR.out.blw hb3
  replace HB : Hid (Blw w w4) := HB.out.trans hb3
  replace H5 : Hid (Row w4 zb 5 (row5f c (.slice (some ⟨z, 0, none⟩) kn kn))) := H5.out.blw hb3
  replace HL : Hid (Row w4 z (kn * 8) (lc p m)) := HL.out.blw hb3
  have HT : Hid (r = true ↔ (fun _ oy => ¬ oy = 0) ox oy) := hr
  clear hr hb3
  have hA : Blw w4 (w4.alloc (.cells #[.int .i64 0, .int .i64 0] 189)) := (Blw.refl _).alloc _
  have HLF : Hid (Row (w4.alloc (.cells #[.int .i64 0, .int .i64 0] 189)) w4.heap.size 2 (fun i => if i = 0 then .int .i64 0 else .int .i64 0)) := box2 w4 _ _ 189
  replace HR : Hid (Row (w4.alloc (.cells #[.int .i64 0, .int .i64 0] 189)) (w.heap.size + 1) 2 (fun i => if i = 0 then .slice none 0 0 else .slice none 0 0)) := HR.out.blw hA
  replace HB : Hid (Blw w (w4.alloc (.cells #[.int .i64 0, .int .i64 0] 189))) := HB.out.trans hA
  replace H5 : Hid (Row (w4.alloc (.cells #[.int .i64 0, .int .i64 0] 189)) zb 5 (row5f c (.slice (some ⟨z, 0, none⟩) kn kn))) := H5.out.blw hA
  replace HL : Hid (Row (w4.alloc (.cells #[.int .i64 0, .int .i64 0] 189)) z (kn * 8) (lc p m)) := HL.out.blw hA
  clear hA
  cases r
  · have HN : Hid (¬ (fun _ oy => ¬ oy = 0) ox oy) := fun g => by have := HT.out.2 g; simp at this
    clear HT
    go_upto_region 6 with fail
    generalize w4.alloc (.cells #[.int .i64 0, .int .i64 0] 189) = w5 at *
    obtain ⟨t0, t1⟩ := get2 HR.out
    have f0 := HR.out.frozen 0
    have f1 := HR.out.frozen 1
    clear HR 
    go_wp2
    exact bodyPost_ret (v := .tuple #[BV.zero.val BD.zero, .bool false]) (by simp [results, Try.results206, go_sem, t0, t1]) rfl (zero_givesT (z := w.heap.size + 1) (by omega) (Or.inr ⟨fun q => HN.out (by have h3 : (fun _ oy => ¬ oy = 0) (lfP c p x) (lfP c m x) := q.2.2.1; simp only [← HOX.out, ← HOY.out] at h3; exact h3), rfl, rfl⟩) HB.out)
  have H2 : Hid ((fun _ oy => ¬ oy = 0) ox oy) := HT.out.1 (by first | rfl | trivial)
  clear HT
  obtain ⟨s0, s1⟩ := get2 HLF.out
  go_wp2_with fail
  generalize w4.alloc (.cells #[.int .i64 0, .int .i64 0] 189) = w5 at *
  clear s0 s1
  refine (put_any c z kn p m zb x _ _ _ hk4 (fun i hi => HG.out.top i hi) hx16 hzz H5.out HL.out).mono ?_
  rintro e w6 (⟨q, hgo, rfl, h5, hl, hm⟩ | ⟨hno, rfl, hb⟩)
  · have hz1 := HZ.out
    have hz2 := HLO.out
    replace HR : Hid (Row w6 (w.heap.size + 1) 2 (fun i => if i = 0 then .slice none 0 0 else .slice none 0 0)) := HR.out.mod hm (by omega)
    replace HB : Hid (Blw w w6) := Mod.blw HB.out hm (fun i hi => by omega)
    have HOUT : Hid ((chOut ⟨4, c, ⟨kn, len, p, m⟩⟩ (x : Int) (fun _ oy => ¬ oy = 0) (fun _ => 0) 0) (chB ⟨4, c, ⟨kn, len, p, m⟩⟩ x q 0 0) true) := Or.inl ⟨⟨HG.out, H1.out, by rw [Int.toNat_natCast, ← HOX.out, ← HOY.out]; exact H2.out, q, by rw [Int.toNat_natCast]; exact hgo⟩, ⟨q, by rw [Int.toNat_natCast]; exact hgo, by rw [Int.toNat_natCast, ← HOX.out]⟩, rfl⟩
    unfold chB at HOUT
    dsimp only at HOUT
    generalize topsOf c (x / 4) q (upd2 p q (x % 4) 0 q) (upd2 m q (x % 4) 0 q) = c' at *
    generalize upd2 p q (x % 4) 0 = p' at *
    generalize upd2 m q (x % 4) 0 = m' at *
    obtain ⟨s0, s1, s2, s3, s4⟩ := get5 h5
    clear hgo h5 hm H5 HL HLF H2 HOX HOY 
    go_wp2_with fail
    clear s0 s1 s2 s3 s4
    refine (giveOut_any c' z kn p' m' _ hk4 hl).mono ?_
    rintro e w7 ⟨b7, rfl, own, hb7⟩
    have h67 := HB.out.size
    have hzr := HR.out.lt
    have FIN : Hid _ := fin_givesT (out := (chOut ⟨4, c, ⟨kn, len, p, m⟩⟩ (x : Int) (fun _ oy => ¬ oy = 0) (fun _ => 0) 0)) (w := w) (W := w7) (z := w.heap.size + 1) (b := b7) (R := ⟨4, c', ⟨kn, fun _ => 4, p', m'⟩⟩) (by omega) HOUT.out (tot4 (c := c') hk4) (HB.out.trans hb7) own (fun x hx => ⟨by omega, by omega, hx.2⟩)
    obtain ⟨t0, t1⟩ := get2 (HR.out.blw hb7)
    have f0 := (HR.out.blw hb7).frozen 0
    have f1 := (HR.out.blw hb7).frozen 1
    clear own hb7 HR HB hz1 hz2 h67 hzr hl HOUT
    go_wp2
    exact bodyPost_ret (v := .tuple #[b7.val ⟨4, c', ⟨kn, fun _ => 4, p', m'⟩⟩, .bool true]) (by simp [results, Try.results206, go_sem, t0, t1]) rfl FIN.out
  · have HN : Hid (¬ ∃ q, goes c kn (x / 4) q) := hno
    replace HR : Hid (Row w6 (w.heap.size + 1) 2 (fun i => if i = 0 then .slice none 0 0 else .slice none 0 0)) := HR.out.blw hb
    replace HB : Hid (Blw w w6) := HB.out.trans hb
    clear hno hb H5 HL HLF HZ HLO
    obtain ⟨t0, t1⟩ := get2 HR.out
    have f0 := HR.out.frozen 0
    have f1 := HR.out.frozen 1
    clear HR 
    go_wp2
    exact bodyPost_ret (v := .tuple #[BV.zero.val BD.zero, .bool false]) (by simp [results, Try.results206, go_sem, t0, t1]) rfl (zero_givesT (z := w.heap.size + 1) (by omega) (Or.inr ⟨fun q => HN.out (by have := q.2.2.2; rw [Int.toNat_natCast] at this; exact this), rfl, rfl⟩) HB.out)
end Go.Proofs.Ytbpdopcdhnemfaa
/- A leaf that may other: the program's. -/
namespace Go.Proofs.Ytbpdopcdhnemfaa
open Go.RowKit
set_option linter.unusedSimpArgs false
set_option linter.unusedVariables false
set_option maxRecDepth 10000 in
set_option maxHeartbeats 6400000 in
theorem changeProt_any (b : BV) (B : BD) (a y : Int) (b2 : Nat) (Y : Nat → Prop) (w : World) (h : BookAt Y w b B) (hY : ∀ x, Y x → x < w.heap.size) (hb2 : Row w b2 1 (fun _ => .int .i64 y)) :
    Calls Try.prog 206 #[b.val B, .int .i64 a, .func (.func 209) #[] #[.pointer (some ⟨b2, 0, none⟩)]] w (GivesB (chOut B a (fun _ oy => ¬ oy = 0 ∧ mayOK y) (fun o => o) y) w) := by
  have hA1 : Blw w (w.alloc (.cells #[.slice b.a1 B.n b.c1, .slice b.a2 B.D.n b.c2] 29)) := (Blw.refl _).alloc _
  have hA2 : Blw (w.alloc (.cells #[.slice b.a1 B.n b.c1, .slice b.a2 B.D.n b.c2] 29)) ((w.alloc (.cells #[.slice b.a1 B.n b.c1, .slice b.a2 B.D.n b.c2] 29)).alloc (.cells #[.slice none 0 0, .slice none 0 0] 29)) := (Blw.refl _).alloc _
  have HB : Hid (Blw w ((w.alloc (.cells #[.slice b.a1 B.n b.c1, .slice b.a2 B.D.n b.c2] 29)).alloc (.cells #[.slice none 0 0, .slice none 0 0] 29))) := hA1.trans hA2
  have rR := box2 (w.alloc (.cells #[.slice b.a1 B.n b.c1, .slice b.a2 B.D.n b.c2] 29)) (.slice none 0 0) (.slice none 0 0) 29
  rw [World.size_alloc] at rR
  have HR : Hid (Row ((w.alloc (.cells #[.slice b.a1 B.n b.c1, .slice b.a2 B.D.n b.c2] 29)).alloc (.cells #[.slice none 0 0, .slice none 0 0] 29)) (w.heap.size + 1) 2 (fun i => if i = 0 then .slice none 0 0 else .slice none 0 0)) := rR
  have HA : Hid (BookAt Y ((w.alloc (.cells #[.slice b.a1 B.n b.c1, .slice b.a2 B.D.n b.c2] 29)).alloc (.cells #[.slice none 0 0, .slice none 0 0] 29)) b B) := h.blw (hA1.trans hA2)
  have hsz : ((w.alloc (.cells #[.slice b.a1 B.n b.c1, .slice b.a2 B.D.n b.c2] 29)).alloc (.cells #[.slice none 0 0, .slice none 0 0] 29)).heap.size = w.heap.size + 1 + 1 := by simp
  have Hb2 : Hid (Row ((w.alloc (.cells #[.slice b.a1 B.n b.c1, .slice b.a2 B.D.n b.c2] 29)).alloc (.cells #[.slice none 0 0, .slice none 0 0] 29)) b2 1 (fun _ => .int .i64 y)) := hb2.blw (hA1.trans hA2)
  clear hA1 hA2 rR h hb2
  go_enter Try.func206, Try.ntmps206
  go_wp2_with fail
  refine (hold_any b B Y _ HA.out (fun x hx => by have := hY x hx; simp; omega)).mono ?_
  rintro e w1 ⟨h1, hb1⟩
  replace HR : Hid (Row w1 (w.heap.size + 1) 2 (fun i => if i = 0 then .slice none 0 0 else .slice none 0 0)) := HR.out.blw hb1
  replace Hb2 : Hid (Row w1 b2 1 (fun _ => .int .i64 y)) := Hb2.out.blw hb1
  replace HB : Hid (Blw w w1) := HB.out.trans hb1
  have HZ : Hid (w.heap.size + 1 + 1 ≤ w1.heap.size) := by have := hb1.size; show _ ≤ _; omega
  clear hb1 HA hsz
  rcases h1 with ⟨z, hg, rfl, hrow, hlo⟩ | ⟨hg, rfl⟩
  case inr =>
    have HG : Hid (¬ B.Good) := hg
    clear hg
    go_upto_region 3 with fail
    replace HR : Hid (Row (w1.alloc (.cells zero5 136)) (w.heap.size + 1) 2 (fun i => if i = 0 then .slice none 0 0 else .slice none 0 0)) := HR.out.blw ((Blw.refl _).alloc _)
    replace Hb2 : Hid (Row (w1.alloc (.cells zero5 136)) b2 1 (fun _ => .int .i64 y)) := Hb2.out.blw ((Blw.refl _).alloc _)
    replace HB : Hid (Blw w (w1.alloc (.cells zero5 136))) := HB.out.alloc _
    clear HZ
    generalize w1.alloc (.cells zero5 136) = w2 at *
    obtain ⟨t0, t1⟩ := get2 HR.out
    have f0 := HR.out.frozen 0
    have f1 := HR.out.frozen 1
    clear HR Hb2
    go_wp2
    exact bodyPost_ret (v := .tuple #[BV.zero.val BD.zero, .bool false]) (by simp [results, Try.results206, go_sem, t0, t1]) rfl (zero_givesT (z := w.heap.size + 1) (by omega) (Or.inr ⟨fun q => HG.out q.1, rfl, rfl⟩) HB.out)
  have HG : Hid B.Good := hg
  obtain ⟨n, c, ⟨kn, len, p, m⟩⟩ := B
  obtain ⟨a1, a2, q1, q2⟩ := b
  have hn4 : n = 4 := HG.out.n
  subst hn4
  have hk4 : kn ≤ 4 := HG.out.k.2
  simp only [BV.val] at *
  have hA : Blw w1 (w1.alloc (.cells (held5 c z kn) 136)) := (Blw.refl _).alloc _
  have H5 : Hid (Row (w1.alloc (.cells (held5 c z kn) 136)) w1.heap.size 5 (row5f c (.slice (some ⟨z, 0, none⟩) kn kn))) := row5 w1 (.int .i64 (c 0)) (.int .i64 (c 1)) (.int .i64 (c 2)) (.int .i64 (c 3)) (.slice (some ⟨z, 0, none⟩) kn kn) 136
  have HL : Hid (Row (w1.alloc (.cells (held5 c z kn) 136)) z (kn * 8) (lc p m)) := hrow.blw hA
  have hzz : w1.heap.size ≠ z := by have := hrow.lt; omega
  have hzl : z < w1.heap.size := hrow.lt
  have HLO : Hid (w.heap.size + 1 < z) := by show _ < _; simp only [World.size_alloc] at hlo; omega
  replace HR : Hid (Row (w1.alloc (.cells (held5 c z kn) 136)) (w.heap.size + 1) 2 (fun i => if i = 0 then .slice none 0 0 else .slice none 0 0)) := HR.out.blw hA
  replace Hb2 : Hid (Row (w1.alloc (.cells (held5 c z kn) 136)) b2 1 (fun _ => .int .i64 y)) := Hb2.out.blw hA
  replace HB : Hid (Blw w (w1.alloc (.cells (held5 c z kn) 136))) := HB.out.trans hA
  clear hg hA hrow hlo
  go_wp2_with fail
  generalize w1.alloc (.cells (held5 c z kn) 136) = w2 at *
  generalize w1.heap.size = zb at *
  refine (isPlace_any a _).mono ?_
  rintro e w2 ⟨r, rfl, hr, rfl⟩
  have HT : Hid (r = true ↔ pgOK a) := hr
  clear hr
  cases r
  · have HN : Hid (¬ pgOK a) := fun g => by have := HT.out.2 g; simp at this
    clear HT
    obtain ⟨t0, t1⟩ := get2 HR.out
    have f0 := HR.out.frozen 0
    have f1 := HR.out.frozen 1
    clear HR Hb2
    go_wp2
    exact bodyPost_ret (v := .tuple #[BV.zero.val BD.zero, .bool false]) (by simp [results, Try.results206, go_sem, t0, t1]) rfl (zero_givesT (z := w.heap.size + 1) (by omega) (Or.inr ⟨fun q => HN.out q.2.1, rfl, rfl⟩) HB.out)
  have H1 : Hid (pgOK a) := HT.out.1 (by first | rfl | trivial)
  clear HT
  obtain ⟨x, hx, hx16⟩ : ∃ x : Nat, a = x ∧ x < 16 := ⟨a.toNat, by have := H1.out; unfold pgOK at this; omega, by have := H1.out; unfold pgOK at this; omega⟩
  subst hx
  obtain ⟨p0, p1, p2, p3, p4⟩ := get5 H5.out
  go_wp2_with fail
  clear p0 p1 p2 p3 p4
  refine (leafAt_any c z kn p m x _ hk4 (fun i hi => HG.out.top i hi) hx16 HL.out).mono ?_
  rintro e w3 ⟨rfl, hb2⟩
  replace HR : Hid (Row w3 (w.heap.size + 1) 2 (fun i => if i = 0 then .slice none 0 0 else .slice none 0 0)) := HR.out.blw hb2
  replace Hb2 : Hid (Row w3 b2 1 (fun _ => .int .i64 y)) := Hb2.out.blw hb2
  replace HB : Hid (Blw w w3) := HB.out.trans hb2
  replace H5 : Hid (Row w3 zb 5 (row5f c (.slice (some ⟨z, 0, none⟩) kn kn))) := H5.out.blw hb2
  replace HL : Hid (Row w3 z (kn * 8) (lc p m)) := HL.out.blw hb2
  clear hb2
  go_wp2_with fail
  obtain ⟨ox, hox⟩ : ∃ ox, ox = lfP c p x := ⟨_, rfl⟩
  obtain ⟨oy, hoy⟩ : ∃ oy, oy = lfP c m x := ⟨_, rfl⟩
  rw [← hox, ← hoy]
  have HOX : Hid (ox = lfP c p x) := hox
  have HOY : Hid (oy = lfP c m x) := hoy
  clear hox hoy
  refine (protFn_any ox oy y b2 _ Hb2.out).mono ?_
  rintro e w4 ⟨r, rfl, hr, hb3⟩
  replace HR : Hid (Row w4 (w.heap.size + 1) 2 (fun i => if i = 0 then .slice none 0 0 else .slice none 0 0)) := HR.out.blw hb3
  replace Hb2 : Hid (Row w4 b2 1 (fun _ => .int .i64 y)) := Hb2.out.blw hb3
  replace HB : Hid (Blw w w4) := HB.out.trans hb3
  replace H5 : Hid (Row w4 zb 5 (row5f c (.slice (some ⟨z, 0, none⟩) kn kn))) := H5.out.blw hb3
  replace HL : Hid (Row w4 z (kn * 8) (lc p m)) := HL.out.blw hb3
  have HT : Hid (r = true ↔ (fun _ oy => ¬ oy = 0 ∧ mayOK y) ox oy) := hr
  clear hr hb3
  have hA : Blw w4 (w4.alloc (.cells #[.int .i64 ox, .int .i64 y] 189)) := (Blw.refl _).alloc _
  have HLF : Hid (Row (w4.alloc (.cells #[.int .i64 ox, .int .i64 y] 189)) w4.heap.size 2 (fun i => if i = 0 then .int .i64 ox else .int .i64 y)) := box2 w4 _ _ 189
  replace HR : Hid (Row (w4.alloc (.cells #[.int .i64 ox, .int .i64 y] 189)) (w.heap.size + 1) 2 (fun i => if i = 0 then .slice none 0 0 else .slice none 0 0)) := HR.out.blw hA
  replace Hb2 : Hid (Row (w4.alloc (.cells #[.int .i64 ox, .int .i64 y] 189)) b2 1 (fun _ => .int .i64 y)) := Hb2.out.blw hA
  replace HB : Hid (Blw w (w4.alloc (.cells #[.int .i64 ox, .int .i64 y] 189))) := HB.out.trans hA
  replace H5 : Hid (Row (w4.alloc (.cells #[.int .i64 ox, .int .i64 y] 189)) zb 5 (row5f c (.slice (some ⟨z, 0, none⟩) kn kn))) := H5.out.blw hA
  replace HL : Hid (Row (w4.alloc (.cells #[.int .i64 ox, .int .i64 y] 189)) z (kn * 8) (lc p m)) := HL.out.blw hA
  clear hA
  cases r
  · have HN : Hid (¬ (fun _ oy => ¬ oy = 0 ∧ mayOK y) ox oy) := fun g => by have := HT.out.2 g; simp at this
    clear HT
    go_upto_region 6 with fail
    generalize w4.alloc (.cells #[.int .i64 ox, .int .i64 y] 189) = w5 at *
    obtain ⟨t0, t1⟩ := get2 HR.out
    have f0 := HR.out.frozen 0
    have f1 := HR.out.frozen 1
    clear HR Hb2
    go_wp2
    exact bodyPost_ret (v := .tuple #[BV.zero.val BD.zero, .bool false]) (by simp [results, Try.results206, go_sem, t0, t1]) rfl (zero_givesT (z := w.heap.size + 1) (by omega) (Or.inr ⟨fun q => HN.out (by have h3 : (fun _ oy => ¬ oy = 0 ∧ mayOK y) (lfP c p x) (lfP c m x) := q.2.2.1; simp only [← HOX.out, ← HOY.out] at h3; exact h3), rfl, rfl⟩) HB.out)
  have H2 : Hid ((fun _ oy => ¬ oy = 0 ∧ mayOK y) ox oy) := HT.out.1 (by first | rfl | trivial)
  clear HT
  obtain ⟨s0, s1⟩ := get2 HLF.out
  go_wp2_with fail
  generalize w4.alloc (.cells #[.int .i64 ox, .int .i64 y] 189) = w5 at *
  clear s0 s1
  refine (put_any c z kn p m zb x _ _ _ hk4 (fun i hi => HG.out.top i hi) hx16 hzz H5.out HL.out).mono ?_
  rintro e w6 (⟨q, hgo, rfl, h5, hl, hm⟩ | ⟨hno, rfl, hb⟩)
  · have hz1 := HZ.out
    have hz2 := HLO.out
    replace HR : Hid (Row w6 (w.heap.size + 1) 2 (fun i => if i = 0 then .slice none 0 0 else .slice none 0 0)) := HR.out.mod hm (by omega)
    replace HB : Hid (Blw w w6) := Mod.blw HB.out hm (fun i hi => by omega)
    have HOUT : Hid ((chOut ⟨4, c, ⟨kn, len, p, m⟩⟩ (x : Int) (fun _ oy => ¬ oy = 0 ∧ mayOK y) (fun o => o) y) (chB ⟨4, c, ⟨kn, len, p, m⟩⟩ x q ox y) true) := Or.inl ⟨⟨HG.out, H1.out, by rw [Int.toNat_natCast, ← HOX.out, ← HOY.out]; exact H2.out, q, by rw [Int.toNat_natCast]; exact hgo⟩, ⟨q, by rw [Int.toNat_natCast]; exact hgo, by rw [Int.toNat_natCast, ← HOX.out]⟩, rfl⟩
    unfold chB at HOUT
    dsimp only at HOUT
    generalize topsOf c (x / 4) q (upd2 p q (x % 4) ox q) (upd2 m q (x % 4) y q) = c' at *
    generalize upd2 p q (x % 4) ox = p' at *
    generalize upd2 m q (x % 4) y = m' at *
    obtain ⟨s0, s1, s2, s3, s4⟩ := get5 h5
    clear hgo h5 hm H5 HL HLF H2 HOX HOY Hb2
    go_wp2_with fail
    clear s0 s1 s2 s3 s4
    refine (giveOut_any c' z kn p' m' _ hk4 hl).mono ?_
    rintro e w7 ⟨b7, rfl, own, hb7⟩
    have h67 := HB.out.size
    have hzr := HR.out.lt
    have FIN : Hid _ := fin_givesT (out := (chOut ⟨4, c, ⟨kn, len, p, m⟩⟩ (x : Int) (fun _ oy => ¬ oy = 0 ∧ mayOK y) (fun o => o) y)) (w := w) (W := w7) (z := w.heap.size + 1) (b := b7) (R := ⟨4, c', ⟨kn, fun _ => 4, p', m'⟩⟩) (by omega) HOUT.out (tot4 (c := c') hk4) (HB.out.trans hb7) own (fun x hx => ⟨by omega, by omega, hx.2⟩)
    obtain ⟨t0, t1⟩ := get2 (HR.out.blw hb7)
    have f0 := (HR.out.blw hb7).frozen 0
    have f1 := (HR.out.blw hb7).frozen 1
    clear own hb7 HR HB hz1 hz2 h67 hzr hl HOUT
    go_wp2
    exact bodyPost_ret (v := .tuple #[b7.val ⟨4, c', ⟨kn, fun _ => 4, p', m'⟩⟩, .bool true]) (by simp [results, Try.results206, go_sem, t0, t1]) rfl FIN.out
  · have HN : Hid (¬ ∃ q, goes c kn (x / 4) q) := hno
    replace HR : Hid (Row w6 (w.heap.size + 1) 2 (fun i => if i = 0 then .slice none 0 0 else .slice none 0 0)) := HR.out.blw hb
    replace HB : Hid (Blw w w6) := HB.out.trans hb
    clear hno hb H5 HL HLF HZ HLO
    obtain ⟨t0, t1⟩ := get2 HR.out
    have f0 := HR.out.frozen 0
    have f1 := HR.out.frozen 1
    clear HR Hb2
    go_wp2
    exact bodyPost_ret (v := .tuple #[BV.zero.val BD.zero, .bool false]) (by simp [results, Try.results206, go_sem, t0, t1]) rfl (zero_givesT (z := w.heap.size + 1) (by omega) (Or.inr ⟨fun q => HN.out (by have := q.2.2.2; rw [Int.toNat_natCast] at this; exact this), rfl, rfl⟩) HB.out)
end Go.Proofs.Ytbpdopcdhnemfaa
/- MapPage, UnmapPage, ProtectPage: the program's. -/
namespace Go.Proofs.Ytbpdopcdhnemfaa
open Go.RowKit
set_option linter.unusedSimpArgs false
set_option linter.unusedVariables false
theorem pass_givesT {out : BD → Bool → Prop} {X : Nat → Prop} {w W : World} {z : Nat} {b : BV} {R : BD} {r : Bool} (hz : w.heap.size ≤ z) (ho : out R r) (hs : R.n + (R.D.n + R.D.tot) ≤ 1048576) (hb : Blw w W) (own : BookOwn X W b R) (hX : ∀ x, X x → w.heap.size ≤ x ∧ x ≠ z ∧ x < W.heap.size) :
    GivesB out w (.returned (.tuple #[b.val R, .bool r])) ((W.setCell ⟨z, 0, none⟩ (.slice b.a1 R.n b.c1)).setCell ⟨z, 1, none⟩ (.slice b.a2 R.D.n b.c2)) := by
  have hm := set2_mod (X := fun x => x = z) W rfl (.slice b.a1 R.n b.c1) (.slice b.a2 R.D.n b.c2)
  have := hm.size
  exact ⟨b, R, r, rfl, ho, hs, (own.mod hm (fun x hx e => (hX x hx).2.1 e)).mono (fun x hx => by have := hX x hx; omega), set2_blw hb hz _ _⟩
set_option maxRecDepth 10000 in
set_option maxHeartbeats 1600000 in
theorem implMap_any (b : BV) (B : BD) (a g y : Int) (Y : Nat → Prop) (w : World) (h : BookAt Y w b B) (hY : ∀ x, Y x → x < w.heap.size) :
    Calls Try.prog 201 #[b.val B, .int .i64 a, .int .i64 g, .int .i64 y] w (GivesB (chOut B a (fun _ oy => oy = 0 ∧ pgOK g ∧ mayOK y) (fun _ => g) y) w) := by
  have hb0 : Blw w ((((w.alloc (.cells #[.slice b.a1 B.n b.c1, .slice b.a2 B.D.n b.c2] 29)).alloc (.cells #[.int .i64 g] 3)).alloc (.cells #[.int .i64 y] 3)).alloc (.cells #[.slice none 0 0, .slice none 0 0] 29)) := ((((Blw.refl _).alloc _).alloc _).alloc _).alloc _
  have HA : Hid (BookAt Y ((((w.alloc (.cells #[.slice b.a1 B.n b.c1, .slice b.a2 B.D.n b.c2] 29)).alloc (.cells #[.int .i64 g] 3)).alloc (.cells #[.int .i64 y] 3)).alloc (.cells #[.slice none 0 0, .slice none 0 0] 29)) b B) := h.blw hb0
  have rA := (box2 w (.slice b.a1 B.n b.c1) (.slice b.a2 B.D.n b.c2) 29).blw (show Blw (w.alloc (.cells #[.slice b.a1 B.n b.c1, .slice b.a2 B.D.n b.c2] 29)) ((((w.alloc (.cells #[.slice b.a1 B.n b.c1, .slice b.a2 B.D.n b.c2] 29)).alloc (.cells #[.int .i64 g] 3)).alloc (.cells #[.int .i64 y] 3)).alloc (.cells #[.slice none 0 0, .slice none 0 0] 29)) from (((Blw.refl _).alloc _).alloc _).alloc _)
  have rR := box2 (((w.alloc (.cells #[.slice b.a1 B.n b.c1, .slice b.a2 B.D.n b.c2] 29)).alloc (.cells #[.int .i64 g] 3)).alloc (.cells #[.int .i64 y] 3)) (.slice none 0 0) (.slice none 0 0) 29
  simp only [World.size_alloc] at rR
  have hc0 := (box1 (w.alloc (.cells #[.slice b.a1 B.n b.c1, .slice b.a2 B.D.n b.c2] 29)) (.int .i64 g) 3).blw (show Blw ((w.alloc (.cells #[.slice b.a1 B.n b.c1, .slice b.a2 B.D.n b.c2] 29)).alloc (.cells #[.int .i64 g] 3)) ((((w.alloc (.cells #[.slice b.a1 B.n b.c1, .slice b.a2 B.D.n b.c2] 29)).alloc (.cells #[.int .i64 g] 3)).alloc (.cells #[.int .i64 y] 3)).alloc (.cells #[.slice none 0 0, .slice none 0 0] 29)) from ((Blw.refl _).alloc _).alloc _)
  simp only [World.size_alloc] at hc0
  have hc1 := (box1 ((w.alloc (.cells #[.slice b.a1 B.n b.c1, .slice b.a2 B.D.n b.c2] 29)).alloc (.cells #[.int .i64 g] 3)) (.int .i64 y) 3).blw (show Blw (((w.alloc (.cells #[.slice b.a1 B.n b.c1, .slice b.a2 B.D.n b.c2] 29)).alloc (.cells #[.int .i64 g] 3)).alloc (.cells #[.int .i64 y] 3)) ((((w.alloc (.cells #[.slice b.a1 B.n b.c1, .slice b.a2 B.D.n b.c2] 29)).alloc (.cells #[.int .i64 g] 3)).alloc (.cells #[.int .i64 y] 3)).alloc (.cells #[.slice none 0 0, .slice none 0 0] 29)) from (Blw.refl _).alloc _)
  simp only [World.size_alloc] at hc1
  have hsz : ((((w.alloc (.cells #[.slice b.a1 B.n b.c1, .slice b.a2 B.D.n b.c2] 29)).alloc (.cells #[.int .i64 g] 3)).alloc (.cells #[.int .i64 y] 3)).alloc (.cells #[.slice none 0 0, .slice none 0 0] 29)).heap.size = w.heap.size + 1 + 1 + 1 + 1 := by simp
  clear h
  go_enter Try.func201, Try.ntmps201
  obtain ⟨p0, p1⟩ := get2 rA
  go_wp2_with fail
  clear p0 p1 rA
  revert hb0 HA rR hc0 hc1 hsz
  generalize ((((w.alloc (.cells #[.slice b.a1 B.n b.c1, .slice b.a2 B.D.n b.c2] 29)).alloc (.cells #[.int .i64 g] 3)).alloc (.cells #[.int .i64 y] 3)).alloc (.cells #[.slice none 0 0, .slice none 0 0] 29)) = w0
  intro hb0 HA rR hc0 hc1 hsz
  refine (changeMap_any b B a g y (w.heap.size + 1) (w.heap.size + 1 + 1) Y _ HA.out (fun x hx => by have := hY x hx; omega) hc0 hc1).mono ?_
  rintro e w1 ⟨b1, R, r, rfl, ho, hs, own, hb1⟩
  have hr := rR.blw hb1
  have hlt := hr.lt
  have FIN : Hid _ := pass_givesT (w := w) (W := w1) (z := w.heap.size + 1 + 1 + 1) (by omega) ho hs (hb0.trans hb1) own (fun x hx => ⟨by omega, by omega, hx.2⟩)
  obtain ⟨t0, t1⟩ := get2 hr
  have f0 := hr.frozen 0
  have f1 := hr.frozen 1
  clear HA rR hb0 hb1 own ho hs hr hsz hlt hc0 hc1
  go_wp2
  exact bodyPost_ret (v := .tuple #[b1.val R, .bool r]) (by simp [results, Try.results201, go_sem, t0, t1]) rfl FIN.out
set_option maxRecDepth 10000 in
set_option maxHeartbeats 1600000 in
theorem implUnmap_any (b : BV) (B : BD) (a : Int) (Y : Nat → Prop) (w : World) (h : BookAt Y w b B) (hY : ∀ x, Y x → x < w.heap.size) :
    Calls Try.prog 202 #[b.val B, .int .i64 a] w (GivesB (chOut B a (fun _ oy => ¬ oy = 0) (fun _ => 0) 0) w) := by
  have hb0 : Blw w ((w.alloc (.cells #[.slice b.a1 B.n b.c1, .slice b.a2 B.D.n b.c2] 29)).alloc (.cells #[.slice none 0 0, .slice none 0 0] 29)) := ((Blw.refl _).alloc _).alloc _
  have HA : Hid (BookAt Y ((w.alloc (.cells #[.slice b.a1 B.n b.c1, .slice b.a2 B.D.n b.c2] 29)).alloc (.cells #[.slice none 0 0, .slice none 0 0] 29)) b B) := h.blw hb0
  have rA := (box2 w (.slice b.a1 B.n b.c1) (.slice b.a2 B.D.n b.c2) 29).blw (show Blw (w.alloc (.cells #[.slice b.a1 B.n b.c1, .slice b.a2 B.D.n b.c2] 29)) ((w.alloc (.cells #[.slice b.a1 B.n b.c1, .slice b.a2 B.D.n b.c2] 29)).alloc (.cells #[.slice none 0 0, .slice none 0 0] 29)) from (Blw.refl _).alloc _)
  have rR := box2 (w.alloc (.cells #[.slice b.a1 B.n b.c1, .slice b.a2 B.D.n b.c2] 29)) (.slice none 0 0) (.slice none 0 0) 29
  simp only [World.size_alloc] at rR
  have hsz : ((w.alloc (.cells #[.slice b.a1 B.n b.c1, .slice b.a2 B.D.n b.c2] 29)).alloc (.cells #[.slice none 0 0, .slice none 0 0] 29)).heap.size = w.heap.size + 1 + 1 := by simp
  clear h
  go_enter Try.func202, Try.ntmps202
  obtain ⟨p0, p1⟩ := get2 rA
  go_wp2_with fail
  clear p0 p1 rA
  revert hb0 HA rR  hsz
  generalize ((w.alloc (.cells #[.slice b.a1 B.n b.c1, .slice b.a2 B.D.n b.c2] 29)).alloc (.cells #[.slice none 0 0, .slice none 0 0] 29)) = w0
  intro hb0 HA rR  hsz
  refine (changeUnmap_any b B a Y _ HA.out (fun x hx => by have := hY x hx; omega)).mono ?_
  rintro e w1 ⟨b1, R, r, rfl, ho, hs, own, hb1⟩
  have hr := rR.blw hb1
  have hlt := hr.lt
  have FIN : Hid _ := pass_givesT (w := w) (W := w1) (z := w.heap.size + 1) (by omega) ho hs (hb0.trans hb1) own (fun x hx => ⟨by omega, by omega, hx.2⟩)
  obtain ⟨t0, t1⟩ := get2 hr
  have f0 := hr.frozen 0
  have f1 := hr.frozen 1
  clear HA rR hb0 hb1 own ho hs hr hsz hlt 
  go_wp2
  exact bodyPost_ret (v := .tuple #[b1.val R, .bool r]) (by simp [results, Try.results202, go_sem, t0, t1]) rfl FIN.out
set_option maxRecDepth 10000 in
set_option maxHeartbeats 1600000 in
theorem implProt_any (b : BV) (B : BD) (a y : Int) (Y : Nat → Prop) (w : World) (h : BookAt Y w b B) (hY : ∀ x, Y x → x < w.heap.size) :
    Calls Try.prog 203 #[b.val B, .int .i64 a, .int .i64 y] w (GivesB (chOut B a (fun _ oy => ¬ oy = 0 ∧ mayOK y) (fun o => o) y) w) := by
  have hb0 : Blw w (((w.alloc (.cells #[.slice b.a1 B.n b.c1, .slice b.a2 B.D.n b.c2] 29)).alloc (.cells #[.int .i64 y] 3)).alloc (.cells #[.slice none 0 0, .slice none 0 0] 29)) := (((Blw.refl _).alloc _).alloc _).alloc _
  have HA : Hid (BookAt Y (((w.alloc (.cells #[.slice b.a1 B.n b.c1, .slice b.a2 B.D.n b.c2] 29)).alloc (.cells #[.int .i64 y] 3)).alloc (.cells #[.slice none 0 0, .slice none 0 0] 29)) b B) := h.blw hb0
  have rA := (box2 w (.slice b.a1 B.n b.c1) (.slice b.a2 B.D.n b.c2) 29).blw (show Blw (w.alloc (.cells #[.slice b.a1 B.n b.c1, .slice b.a2 B.D.n b.c2] 29)) (((w.alloc (.cells #[.slice b.a1 B.n b.c1, .slice b.a2 B.D.n b.c2] 29)).alloc (.cells #[.int .i64 y] 3)).alloc (.cells #[.slice none 0 0, .slice none 0 0] 29)) from ((Blw.refl _).alloc _).alloc _)
  have rR := box2 ((w.alloc (.cells #[.slice b.a1 B.n b.c1, .slice b.a2 B.D.n b.c2] 29)).alloc (.cells #[.int .i64 y] 3)) (.slice none 0 0) (.slice none 0 0) 29
  simp only [World.size_alloc] at rR
  have hc0 := (box1 (w.alloc (.cells #[.slice b.a1 B.n b.c1, .slice b.a2 B.D.n b.c2] 29)) (.int .i64 y) 3).blw (show Blw ((w.alloc (.cells #[.slice b.a1 B.n b.c1, .slice b.a2 B.D.n b.c2] 29)).alloc (.cells #[.int .i64 y] 3)) (((w.alloc (.cells #[.slice b.a1 B.n b.c1, .slice b.a2 B.D.n b.c2] 29)).alloc (.cells #[.int .i64 y] 3)).alloc (.cells #[.slice none 0 0, .slice none 0 0] 29)) from (Blw.refl _).alloc _)
  simp only [World.size_alloc] at hc0
  have hsz : (((w.alloc (.cells #[.slice b.a1 B.n b.c1, .slice b.a2 B.D.n b.c2] 29)).alloc (.cells #[.int .i64 y] 3)).alloc (.cells #[.slice none 0 0, .slice none 0 0] 29)).heap.size = w.heap.size + 1 + 1 + 1 := by simp
  clear h
  go_enter Try.func203, Try.ntmps203
  obtain ⟨p0, p1⟩ := get2 rA
  go_wp2_with fail
  clear p0 p1 rA
  revert hb0 HA rR hc0 hsz
  generalize (((w.alloc (.cells #[.slice b.a1 B.n b.c1, .slice b.a2 B.D.n b.c2] 29)).alloc (.cells #[.int .i64 y] 3)).alloc (.cells #[.slice none 0 0, .slice none 0 0] 29)) = w0
  intro hb0 HA rR hc0 hsz
  refine (changeProt_any b B a y (w.heap.size + 1) Y _ HA.out (fun x hx => by have := hY x hx; omega) hc0).mono ?_
  rintro e w1 ⟨b1, R, r, rfl, ho, hs, own, hb1⟩
  have hr := rR.blw hb1
  have hlt := hr.lt
  have FIN : Hid _ := pass_givesT (w := w) (W := w1) (z := w.heap.size + 1 + 1) (by omega) ho hs (hb0.trans hb1) own (fun x hx => ⟨by omega, by omega, hx.2⟩)
  obtain ⟨t0, t1⟩ := get2 hr
  have f0 := hr.frozen 0
  have f1 := hr.frozen 1
  clear HA rR hb0 hb1 own ho hs hr hsz hlt hc0
  go_wp2
  exact bodyPost_ret (v := .tuple #[b1.val R, .bool r]) (by simp [results, Try.results203, go_sem, t0, t1]) rfl FIN.out
end Go.Proofs.Ytbpdopcdhnemfaa
/- The model's copies of tables. -/
namespace Go.Proofs.Ytbpdopcdhnemfaa
open Go.RowKit
set_option linter.unusedSimpArgs false
set_option linter.unusedVariables false
theorem cloneU_run (ao : Option Addr) (n c : Nat) (f g : Nat → Int) (Y : Nat → Prop) (w : World) (hn : n ≤ 1048576) (h : UndosAt Y w ao n f g) :
    ∃ ao' cap w2, (Builtin.append_ #[186, 186] 186 #[.slice (some ⟨w.heap.size, 0, none⟩) 0 0, .slice ao n c]).run Try.prog (w.alloc (.cells #[] 189)) = .ok (.slice ao' n cap) w2 ∧ UndosOwn (fun x => w.heap.size ≤ x ∧ x < w2.heap.size) w2 ao' n f g ∧ Blw w w2 := by
  have hA : Blw w (w.alloc (.cells #[] 189)) := (Blw.refl _).alloc _
  have hE : (w.alloc (.cells #[] 189)).heap[w.heap.size]? = some (.cells #[] 189 (0, 0)) := heap_alloc_new w _
  have hsz : (w.alloc (.cells #[] 189)).heap.size = w.heap.size + 1 := by simp
  obtain ⟨ao', cap, w2, hrun, hB, hM⟩ := BufU.append (Buf.lit (X := fun b => b = w.heap.size) hE 2 rfl (uc (fun _ => 0) (fun _ => 0))) c (h.blw hA) (by omega) 147
  rw [Nat.zero_add] at hrun hB
  rw [hsz] at hB
  obtain ⟨ao2, cap2, e', hO⟩ := BufU.own hB (by omega)
  cases e'
  have s2 := hM.size
  refine ⟨_, _, w2, hrun, (hO.mono (fun x hx => ⟨by omega, hx.2⟩)).congr (fun i hi => by simp [icat]), Mod.blw hA hM (fun i hi => by simp [Value.ownBlock] at hi; omega)⟩
theorem cloneI_run (ao : Option Addr) (n c : Nat) (f : Nat → Int) (Y : Nat → Prop) (w : World) (hn : n ≤ 1048576) (h : IntsAt Y w ao n f) :
    ∃ ao' cap w2, (Builtin.append_ #[26, 26] 26 #[.slice (some ⟨w.heap.size, 0, none⟩) 0 0, .slice ao n c]).run Try.prog (w.alloc (.cells #[] 3)) = .ok (.slice ao' n cap) w2 ∧ IntsOwn (fun x => w.heap.size ≤ x ∧ x < w2.heap.size) w2 ao' n f ∧ Blw w w2 := by
  have hA : Blw w (w.alloc (.cells #[] 3)) := (Blw.refl _).alloc _
  have hE : (w.alloc (.cells #[] 3)).heap[w.heap.size]? = some (.cells #[] 3 (0, 0)) := heap_alloc_new w _
  have hsz : (w.alloc (.cells #[] 3)).heap.size = w.heap.size + 1 := by simp
  obtain ⟨ao', cap, w2, hrun, hB, hM⟩ := BufI.append (Buf.lit (X := fun b => b = w.heap.size) hE 1 rfl (ic (fun _ => 0))) c (h.blw hA) (by omega) 26
  rw [Nat.zero_add] at hrun hB
  rw [hsz] at hB
  obtain ⟨ao2, cap2, e', hO⟩ := BufI.own hB (by omega)
  cases e'
  have s2 := hM.size
  refine ⟨_, _, w2, hrun, (hO.mono (fun x hx => ⟨by omega, hx.2⟩)).congr (fun i hi => by simp [icat]), Mod.blw hA hM (fun i hi => by simp [Value.ownBlock] at hi; omega)⟩
set_option maxRecDepth 10000 in
set_option maxHeartbeats 3200000 in
theorem l6Own_any (b : BV) (c : Nat → Int) (kn : Nat) (len : Nat → Nat) (p m : Nat → Nat → Int) (Y : Nat → Prop) (w : World) (hk : kn ≤ 4) (hlen : ∀ i, i < kn → len i = 4) (h : BookAt Y w b ⟨4, c, ⟨kn, len, p, m⟩⟩) :
    Calls Try.prog 109 #[b.val ⟨4, c, ⟨kn, len, p, m⟩⟩] w fun e w' => ∃ b' : BV, e = .returned (b'.val ⟨4, c, ⟨kn, fun _ => 4, p, m⟩⟩) ∧ BookOwn (fun x => w.heap.size ≤ x ∧ x < w'.heap.size) w' b' ⟨4, c, ⟨kn, fun _ => 4, p, m⟩⟩ ∧ Blw w w' := by
  obtain ⟨a1, a2, q1, q2⟩ := b
  simp only [BV.val] at *
  have hA1 : Blw w (w.alloc (.cells #[.slice a1 4 q1, .slice a2 kn q2] 29)) := (Blw.refl _).alloc _
  have hA2 : Blw (w.alloc (.cells #[.slice a1 4 q1, .slice a2 kn q2] 29)) ((w.alloc (.cells #[.slice a1 4 q1, .slice a2 kn q2] 29)).alloc (.cells #[.slice none 0 0, .slice none 0 0] 29)) := (Blw.refl _).alloc _
  have hb0 := hA1.trans hA2
  have rA := (box2 w (.slice a1 4 q1) (.slice a2 kn q2) 29).blw hA2
  have rR := box2 (w.alloc (.cells #[.slice a1 4 q1, .slice a2 kn q2] 29)) (.slice none 0 0) (.slice none 0 0) 29
  rw [World.size_alloc] at rR
  have hsz : ((w.alloc (.cells #[.slice a1 4 q1, .slice a2 kn q2] 29)).alloc (.cells #[.slice none 0 0, .slice none 0 0] 29)).heap.size = w.heap.size + 1 + 1 := by simp
  have HL : Hid (PSAt Y w a2 ⟨kn, len, p, m⟩) := h.l
  have HC : Hid (IntsAt Y ((w.alloc (.cells #[.slice a1 4 q1, .slice a2 kn q2] 29)).alloc (.cells #[.slice none 0 0, .slice none 0 0] 29)) a1 4 c) := h.c.blw hb0
  have HLEN : Hid (∀ i, i < kn → len i = 4) := hlen
  clear h hA1 hA2 hlen
  go_enter Try.func109, Try.ntmps109
  go_upto_region 1 with fail
  revert hb0 rA rR hsz HC
  generalize ((w.alloc (.cells #[.slice a1 4 q1, .slice a2 kn q2] 29)).alloc (.cells #[.slice none 0 0, .slice none 0 0] 29)) = w0
  intro hb0 rA rR hsz HC
  obtain ⟨ao, cap, w1, hrun, o1, hb1⟩ := cloneI_run a1 4 q1 c Y w0 (by omega) HC.out
  have HRN : Hid _ := hrun
  have hA3 : Blw w1 (w1.alloc (.cells #[.slice ao 4 cap, .slice none 0 0] 29)) := (Blw.refl _).alloc _
  have HBX : Hid (Row (w1.alloc (.cells #[.slice ao 4 cap, .slice none 0 0] 29)) w1.heap.size 2 (fun i => if i = 0 then .slice ao 4 cap else .slice none 0 0)) := box2 w1 _ _ 29
  have HO : Hid (IntsOwn (fun x => w.heap.size + 1 + 1 ≤ x ∧ x < w1.heap.size) (w1.alloc (.cells #[.slice ao 4 cap, .slice none 0 0] 29)) ao 4 c) := (o1.mono (fun x hx => ⟨by omega, hx.2⟩)).blw hA3
  have HB : Hid (Blw w (w1.alloc (.cells #[.slice ao 4 cap, .slice none 0 0] 29))) := hb0.trans (hb1.trans hA3)
  have HR : Hid (Row (w1.alloc (.cells #[.slice ao 4 cap, .slice none 0 0] 29)) (w.heap.size + 1) 2 (fun i => if i = 0 then .slice none 0 0 else .slice none 0 0)) := rR.blw (hb1.trans hA3)
  have HZ : Hid (w.heap.size + 1 + 1 ≤ w1.heap.size) := by have := hb1.size; show _ ≤ _; omega
  have r1 := rA.blw hb1
  have r2 := r1.blw hA3
  obtain ⟨p0, p1⟩ := get2 rA
  obtain ⟨p4, p5⟩ := get2 (rA.blw ((Blw.refl w0).alloc (.cells #[] 3)))
  obtain ⟨p2, p3⟩ := get2 r2
  clear hrun o1 hb1 hA3 hb0 rA rR hsz HC r1 r2
  go_wp2_with (first | (at_builtin; refine wpList_app (.tmp 6) (.tmp 8) 26 (by rfl) ?_; refine ⟨_, _, HRN.out, ?_⟩) | fail)
  clear p0 p1 p2 p3 p4 p5 HRN
  generalize w1.alloc (.cells #[.slice ao 4 cap, .slice none 0 0] 29) = W at *
  generalize w1.heap.size = zt at *
  go_loopw [14] (fun i wr => ∃ j : Nat, j ≤ kn ∧ i = .int .i64 j ∧ ∃ v A C ZB Z, Row wr zt 2 (fun i => if i = 0 then .slice ao 4 cap else v) ∧ Tl (zt + 1) wr v j A C p m ZB Z ∧ IntsOwn (fun x => w.heap.size + 1 + 1 ≤ x ∧ x < zt) wr ao 4 c ∧ Row wr (w.heap.size + 1) 2 (fun i => if i = 0 then .slice none 0 0 else .slice none 0 0) ∧ Blw w wr) (fun i _ => kn - (intOf i).toNat)
  case atStart => exact ⟨0, Nat.zero_le _, rfl, _, _, _, _, _, HBX.out, Tl.nil _ _ _ _, HO.out, HR.out, HB.out⟩
  case round =>
    clear HBX HO HB HR
    obtain ⟨j, hj, rfl, v, A, C, ZB, Z, hbx, htl, ho, hr, hb⟩ := hrel
    have HO : Hid (IntsOwn (fun x => w.heap.size + 1 + 1 ≤ x ∧ x < zt) wr ao 4 c) := ho
    have HR : Hid (Row wr (w.heap.size + 1) 2 (fun i => if i = 0 then .slice none 0 0 else .slice none 0 0)) := hr
    have HB : Hid (Blw w wr) := hb
    have HTL : Hid (Tl (zt + 1) wr v j A C p m ZB Z) := htl
    have HBX : Hid (Row wr zt 2 (fun i => if i = 0 then .slice ao 4 cap else v)) := hbx
    clear ho hr hb htl hbx
    by_cases hlt : j < kn
    · have hlt' : (j : Int) < (kn : Int) := by omega
      have hL := HL.out.blw HB.out
      obtain ⟨bb, oo, aa, cc, ea, hyb, g1, g2⟩ := hL.2 j hlt
      subst ea
      dsimp only at g1 g2
      rw [HLEN.out j hlt] at g1 g2
      have HU : Hid (UndosAt Y wr.drew aa 4 (p j) (m j)) := g2.blw (Blw.refl _).drew
      clear g2 hL
      go_upto_region 5 with fail
      replace HO : Hid (IntsOwn (fun x => w.heap.size + 1 + 1 ≤ x ∧ x < zt) wr.drew ao 4 c) := HO.out.blw (Blw.refl _).drew
      replace HR : Hid (Row wr.drew (w.heap.size + 1) 2 (fun i => if i = 0 then .slice none 0 0 else .slice none 0 0)) := HR.out.blw (Blw.refl _).drew
      replace HB : Hid (Blw w wr.drew) := HB.out.drew
      replace HTL : Hid (Tl (zt + 1) wr.drew v j A C p m ZB Z) := HTL.out.go (Blw.refl _).drew
      replace HBX : Hid (Row wr.drew zt 2 (fun i => if i = 0 then .slice ao 4 cap else v)) := HBX.out.blw (Blw.refl _).drew
      clear g1
      have P1 : ∀ w', Row w' zt 2 (fun i => if i = 0 then .slice ao 4 cap else v) → w'.cell? ⟨zt, 1, none⟩ = some v := fun w' hh => (get2 hh).2
      have pa := P1 _ HBX.out
      have pb := P1 _ (HBX.out.blw ((Blw.refl wr.drew).alloc (.cells #[] 189)))
      obtain ⟨au, cu, w2, hrun, o2, hb2⟩ := cloneU_run aa 4 cc (p j) (m j) Y wr.drew (by omega) HU.out
      have pc := P1 _ (HBX.out.blw hb2)
      have pd := P1 _ (HBX.out.blw (hb2.trans ((Blw.refl w2).alloc (.cells #[.slice au 4 cu] 186))))
      obtain ⟨an, cn, w3, ZB', hrun2, htl2, hM⟩ := HTL.out.push hb2 (by have := HBX.out.lt; omega) (Nat.le_refl _) hb2.size o2 (cap := cu) (by omega)
      have hM2 := (hb2.mod ZB).trans hM
      have hzb : ∀ x, ZB x → zt + 1 ≤ x := fun x hx => (HTL.out.zb x hx).1
      have hzt := HZ.out
      have hS3 := HBX.out.mod hM2 (fun h => by have := hzb _ h; omega)
      have ms : Mod (fun x => x = zt) w3 (w3.setCell ⟨zt, 1, none⟩ (.slice an (j + 1) cn)) := Mod.setCell (X := fun x => x = zt) _ (p := ⟨zt, 1, none⟩) rfl _
      have HN : Hid (∃ v A C ZB Z, Row (w3.setCell ⟨zt, 1, none⟩ (.slice an (j + 1) cn)) zt 2 (fun i => if i = 0 then .slice ao 4 cap else v) ∧ Tl (zt + 1) (w3.setCell ⟨zt, 1, none⟩ (.slice an (j + 1) cn)) v (j + 1) A C p m ZB Z ∧ IntsOwn (fun x => w.heap.size + 1 + 1 ≤ x ∧ x < zt) (w3.setCell ⟨zt, 1, none⟩ (.slice an (j + 1) cn)) ao 4 c ∧ Row (w3.setCell ⟨zt, 1, none⟩ (.slice an (j + 1) cn)) (w.heap.size + 1) 2 (fun i => if i = 0 then .slice none 0 0 else .slice none 0 0) ∧ Blw w (w3.setCell ⟨zt, 1, none⟩ (.slice an (j + 1) cn))) :=
        ⟨_, _, _, _, _, set2_1 hS3 (.slice an (j + 1) cn), htl2.mod ms (fun x hx => by omega), (HO.out.mod hM2 (fun x hx h => by have := hzb _ h; omega)).mod ms (fun x hx => by omega), (HR.out.mod hM2 (fun h => by have := hzb _ h; omega)).mod ms (by omega), Mod.blw (Mod.blw HB.out hM2 (fun i hi => by have := hzb _ hi; omega)) ms (fun i hi => by omega)⟩
      have f1 := hS3.frozen 1
      have p1 := (get2 hS3).2
      have HRN : Hid _ := hrun
      have HRN2 : Hid _ := hrun2
      clear HU o2 hb2 hrun hrun2 htl2 hM hM2 hzb hzt hS3 ms HO HR HB HTL HBX P1
      refine wp_region_noPanic ?_
      refine wp_region_held_drew (S := fun _ => True) (by kernel_rfl) trivial (fun hB => ?_)
      clear hB
      generalize wr.drew = wd at *
      refine wpAnyH_take (i := 0) (oi := { dst := some 18, op := Op.fieldAddr 29 (Operand.tmp 3) 1, type := 0, pos := _, after := #[], guard := none }) (v := (.pointer (some ⟨zt, 1, none⟩))) rfl (by kernel_rfl) (by kernel_rfl) (by kernel_rfl) (fun _ _ _ h => h) (Or.inl ⟨by rfl, fun w' hS => by (try dsimp only at hS); go_simp⟩) trivial ?_
      simp only [Act.put, List.setIfInBounds_toArray, List.set_cons_zero, List.set_cons_succ]
      refine wpAnyH_take (i := 3) (oi := { dst := some 21, op := Op.move (Operand.tmp 5), type := 186, pos := _, after := #[], guard := none }) (v := (.slice aa 4 cc)) rfl (by kernel_rfl) (by kernel_rfl) (by kernel_rfl) (fun _ _ _ h => h) (Or.inl ⟨by rfl, fun w' hS => by (try dsimp only at hS); go_simp⟩) trivial ?_
      simp only [Act.put, List.setIfInBounds_toArray, List.set_cons_zero, List.set_cons_succ]
      refine wpAnyH_ready (rs := [1, 2]) (by kernel_rfl) (by simp) ?_
      refine AllReadyH.cons (o := { dst := some 19, op := Op.load 27 (Operand.tmp 18), type := 27, pos := _, after := #[{ on := 0, ground := Ground.data }], guard := none }) rfl (fun K hK => ?_) (AllReadyH.cons (o := { dst := some 20, op := Op.buildSlice 186 0 #[], type := 186, pos := _, after := #[], guard := none }) rfl (fun K hK => ?_) AllReadyH.nil)
      · go_simp
        refine hK.out _ _ trivial (fun hB => ?_)
        clear hK K hB
        try simp only [Act.put, List.setIfInBounds_toArray, List.set_cons_zero, List.set_cons_succ]
        refine wpAnyH_ready (rs := [2]) (by kernel_rfl) (by simp) ?_
        refine AllReadyH.cons (o := { dst := some 20, op := Op.buildSlice 186 0 #[], type := 186, pos := _, after := #[], guard := none }) rfl (fun K hK => ?_) AllReadyH.nil
        go_simp
        refine hK.out _ _ trivial (fun hB => ?_)
        clear hK K hB
        try simp only [Act.put, List.setIfInBounds_toArray, List.set_cons_zero, List.set_cons_succ]
        refine wpAnyH_ready (rs := [4]) (by kernel_rfl) (by simp) ?_
        refine AllReadyH.cons (o := { dst := some 22, op := Op.call { callee := Callee.builtin Builtin.append, args := #[Operand.tmp 20, Operand.tmp 21], argTypes := #[186, 186] }, type := 186, pos := _, after := #[{ on := 2, ground := Ground.data }, { on := 3, ground := Ground.data }], guard := none }) rfl (fun K hK => ?_) AllReadyH.nil
        refine step_app (.tmp 20) (.tmp 21) 186 (by rfl) ?_
        refine ⟨_, _, HRN.out, ?_⟩
        refine hK.out _ _ trivial (fun hB => ?_)
        clear hK K hB
        try simp only [Act.put, List.setIfInBounds_toArray, List.set_cons_zero, List.set_cons_succ]
        refine wpAnyH_ready (rs := [5]) (by kernel_rfl) (by simp) ?_
        refine AllReadyH.cons (o := { dst := some 23, op := Op.buildSlice 27 1 #[(0, Operand.tmp 22)], type := 27, pos := _, after := #[{ on := 4, ground := Ground.data }], guard := none }) rfl (fun K hK => ?_) AllReadyH.nil
        go_simp
        refine hK.out _ _ trivial (fun hB => ?_)
        clear hK K hB
        try simp only [Act.put, List.setIfInBounds_toArray, List.set_cons_zero, List.set_cons_succ]
        refine wpAnyH_ready (rs := [6]) (by kernel_rfl) (by simp) ?_
        refine AllReadyH.cons (o := { dst := some 24, op := Op.call { callee := Callee.builtin Builtin.append, args := #[Operand.tmp 19, Operand.tmp 23], argTypes := #[27, 27] }, type := 27, pos := _, after := #[{ on := 1, ground := Ground.data }, { on := 5, ground := Ground.data }, { on := 4, ground := Ground.chain }], guard := none }) rfl (fun K hK => ?_) AllReadyH.nil
        refine step_app (.tmp 19) (.tmp 23) 27 (by rfl) ?_
        refine ⟨_, _, HRN2.out, ?_⟩
        refine hK.out _ _ trivial (fun hB => ?_)
        clear hK K hB
        try simp only [Act.put, List.setIfInBounds_toArray, List.set_cons_zero, List.set_cons_succ]
        refine wpAnyH_take (i := 7) (oi := { dst := some 25, op := Op.fieldAddr 29 (Operand.tmp 3) 1, type := 0, pos := _, after := #[{ on := 0, ground := Ground.phase }, { on := 1, ground := Ground.phase }, { on := 2, ground := Ground.phase }, { on := 3, ground := Ground.phase }, { on := 4, ground := Ground.phase }, { on := 5, ground := Ground.phase }, { on := 6, ground := Ground.phase }], guard := none }) (v := (.pointer (some ⟨zt, 1, none⟩))) rfl (by kernel_rfl) (by kernel_rfl) (by kernel_rfl) (fun _ _ _ h => h) (Or.inl ⟨by rfl, fun w' hS => by (try dsimp only at hS); go_simp⟩) trivial ?_
        simp only [Act.put, List.setIfInBounds_toArray, List.set_cons_zero, List.set_cons_succ]
        refine wpAnyH_ready (rs := [8]) (by kernel_rfl) (by simp) ?_
        refine AllReadyH.cons (o := { dst := none, op := Op.store 27 (Operand.tmp 25) (Operand.tmp 24), type := 0, pos := _, after := #[{ on := 7, ground := Ground.data }, { on := 6, ground := Ground.data }, { on := 6, ground := Ground.chain }, { on := 0, ground := Ground.phase }, { on := 1, ground := Ground.phase }, { on := 2, ground := Ground.phase }, { on := 3, ground := Ground.phase }, { on := 4, ground := Ground.phase }, { on := 5, ground := Ground.phase }, { on := 6, ground := Ground.phase }], guard := none }) rfl (fun K hK => ?_) AllReadyH.nil
        go_simp
        refine hK.out _ _ trivial (fun hB => ?_)
        clear hK K hB
        try simp only [Act.put, List.setIfInBounds_toArray, List.set_cons_zero, List.set_cons_succ]
        refine wpAnyH_done (by kernel_rfl) ?_ _
        refine NoPanic.normal ?_
        clear pa pb pc pd f1 p1 HRN HRN2
        go_wp2
        go_roundw
        case rel => exact ⟨j + 1, by omega, by go_num, HN.out⟩
        case measure => simp [intOf]; omega
      · go_simp
        refine hK.out _ _ trivial (fun hB => ?_)
        clear hK K hB
        try simp only [Act.put, List.setIfInBounds_toArray, List.set_cons_zero, List.set_cons_succ]
        refine wpAnyH_ready (rs := [1, 4]) (by kernel_rfl) (by simp) ?_
        refine AllReadyH.cons (o := { dst := some 19, op := Op.load 27 (Operand.tmp 18), type := 27, pos := _, after := #[{ on := 0, ground := Ground.data }], guard := none }) rfl (fun K hK => ?_) (AllReadyH.cons (o := { dst := some 22, op := Op.call { callee := Callee.builtin Builtin.append, args := #[Operand.tmp 20, Operand.tmp 21], argTypes := #[186, 186] }, type := 186, pos := _, after := #[{ on := 2, ground := Ground.data }, { on := 3, ground := Ground.data }], guard := none }) rfl (fun K hK => ?_) AllReadyH.nil)
        · go_simp
          refine hK.out _ _ trivial (fun hB => ?_)
          clear hK K hB
          try simp only [Act.put, List.setIfInBounds_toArray, List.set_cons_zero, List.set_cons_succ]
          refine wpAnyH_ready (rs := [4]) (by kernel_rfl) (by simp) ?_
          refine AllReadyH.cons (o := { dst := some 22, op := Op.call { callee := Callee.builtin Builtin.append, args := #[Operand.tmp 20, Operand.tmp 21], argTypes := #[186, 186] }, type := 186, pos := _, after := #[{ on := 2, ground := Ground.data }, { on := 3, ground := Ground.data }], guard := none }) rfl (fun K hK => ?_) AllReadyH.nil
          refine step_app (.tmp 20) (.tmp 21) 186 (by rfl) ?_
          refine ⟨_, _, HRN.out, ?_⟩
          refine hK.out _ _ trivial (fun hB => ?_)
          clear hK K hB
          try simp only [Act.put, List.setIfInBounds_toArray, List.set_cons_zero, List.set_cons_succ]
          refine wpAnyH_ready (rs := [5]) (by kernel_rfl) (by simp) ?_
          refine AllReadyH.cons (o := { dst := some 23, op := Op.buildSlice 27 1 #[(0, Operand.tmp 22)], type := 27, pos := _, after := #[{ on := 4, ground := Ground.data }], guard := none }) rfl (fun K hK => ?_) AllReadyH.nil
          go_simp
          refine hK.out _ _ trivial (fun hB => ?_)
          clear hK K hB
          try simp only [Act.put, List.setIfInBounds_toArray, List.set_cons_zero, List.set_cons_succ]
          refine wpAnyH_ready (rs := [6]) (by kernel_rfl) (by simp) ?_
          refine AllReadyH.cons (o := { dst := some 24, op := Op.call { callee := Callee.builtin Builtin.append, args := #[Operand.tmp 19, Operand.tmp 23], argTypes := #[27, 27] }, type := 27, pos := _, after := #[{ on := 1, ground := Ground.data }, { on := 5, ground := Ground.data }, { on := 4, ground := Ground.chain }], guard := none }) rfl (fun K hK => ?_) AllReadyH.nil
          refine step_app (.tmp 19) (.tmp 23) 27 (by rfl) ?_
          refine ⟨_, _, HRN2.out, ?_⟩
          refine hK.out _ _ trivial (fun hB => ?_)
          clear hK K hB
          try simp only [Act.put, List.setIfInBounds_toArray, List.set_cons_zero, List.set_cons_succ]
          refine wpAnyH_take (i := 7) (oi := { dst := some 25, op := Op.fieldAddr 29 (Operand.tmp 3) 1, type := 0, pos := _, after := #[{ on := 0, ground := Ground.phase }, { on := 1, ground := Ground.phase }, { on := 2, ground := Ground.phase }, { on := 3, ground := Ground.phase }, { on := 4, ground := Ground.phase }, { on := 5, ground := Ground.phase }, { on := 6, ground := Ground.phase }], guard := none }) (v := (.pointer (some ⟨zt, 1, none⟩))) rfl (by kernel_rfl) (by kernel_rfl) (by kernel_rfl) (fun _ _ _ h => h) (Or.inl ⟨by rfl, fun w' hS => by (try dsimp only at hS); go_simp⟩) trivial ?_
          simp only [Act.put, List.setIfInBounds_toArray, List.set_cons_zero, List.set_cons_succ]
          refine wpAnyH_ready (rs := [8]) (by kernel_rfl) (by simp) ?_
          refine AllReadyH.cons (o := { dst := none, op := Op.store 27 (Operand.tmp 25) (Operand.tmp 24), type := 0, pos := _, after := #[{ on := 7, ground := Ground.data }, { on := 6, ground := Ground.data }, { on := 6, ground := Ground.chain }, { on := 0, ground := Ground.phase }, { on := 1, ground := Ground.phase }, { on := 2, ground := Ground.phase }, { on := 3, ground := Ground.phase }, { on := 4, ground := Ground.phase }, { on := 5, ground := Ground.phase }, { on := 6, ground := Ground.phase }], guard := none }) rfl (fun K hK => ?_) AllReadyH.nil
          go_simp
          refine hK.out _ _ trivial (fun hB => ?_)
          clear hK K hB
          try simp only [Act.put, List.setIfInBounds_toArray, List.set_cons_zero, List.set_cons_succ]
          refine wpAnyH_done (by kernel_rfl) ?_ _
          refine NoPanic.normal ?_
          clear pa pb pc pd f1 p1 HRN HRN2
          go_wp2
          go_roundw
          case rel => exact ⟨j + 1, by omega, by go_num, HN.out⟩
          case measure => simp [intOf]; omega
        · refine step_app (.tmp 20) (.tmp 21) 186 (by rfl) ?_
          refine ⟨_, _, HRN.out, ?_⟩
          refine hK.out _ _ trivial (fun hB => ?_)
          clear hK K hB
          try simp only [Act.put, List.setIfInBounds_toArray, List.set_cons_zero, List.set_cons_succ]
          refine wpAnyH_ready (rs := [1, 5]) (by kernel_rfl) (by simp) ?_
          refine AllReadyH.cons (o := { dst := some 19, op := Op.load 27 (Operand.tmp 18), type := 27, pos := _, after := #[{ on := 0, ground := Ground.data }], guard := none }) rfl (fun K hK => ?_) (AllReadyH.cons (o := { dst := some 23, op := Op.buildSlice 27 1 #[(0, Operand.tmp 22)], type := 27, pos := _, after := #[{ on := 4, ground := Ground.data }], guard := none }) rfl (fun K hK => ?_) AllReadyH.nil)
          · go_simp
            refine hK.out _ _ trivial (fun hB => ?_)
            clear hK K hB
            try simp only [Act.put, List.setIfInBounds_toArray, List.set_cons_zero, List.set_cons_succ]
            refine wpAnyH_ready (rs := [5]) (by kernel_rfl) (by simp) ?_
            refine AllReadyH.cons (o := { dst := some 23, op := Op.buildSlice 27 1 #[(0, Operand.tmp 22)], type := 27, pos := _, after := #[{ on := 4, ground := Ground.data }], guard := none }) rfl (fun K hK => ?_) AllReadyH.nil
            go_simp
            refine hK.out _ _ trivial (fun hB => ?_)
            clear hK K hB
            try simp only [Act.put, List.setIfInBounds_toArray, List.set_cons_zero, List.set_cons_succ]
            refine wpAnyH_ready (rs := [6]) (by kernel_rfl) (by simp) ?_
            refine AllReadyH.cons (o := { dst := some 24, op := Op.call { callee := Callee.builtin Builtin.append, args := #[Operand.tmp 19, Operand.tmp 23], argTypes := #[27, 27] }, type := 27, pos := _, after := #[{ on := 1, ground := Ground.data }, { on := 5, ground := Ground.data }, { on := 4, ground := Ground.chain }], guard := none }) rfl (fun K hK => ?_) AllReadyH.nil
            refine step_app (.tmp 19) (.tmp 23) 27 (by rfl) ?_
            refine ⟨_, _, HRN2.out, ?_⟩
            refine hK.out _ _ trivial (fun hB => ?_)
            clear hK K hB
            try simp only [Act.put, List.setIfInBounds_toArray, List.set_cons_zero, List.set_cons_succ]
            refine wpAnyH_take (i := 7) (oi := { dst := some 25, op := Op.fieldAddr 29 (Operand.tmp 3) 1, type := 0, pos := _, after := #[{ on := 0, ground := Ground.phase }, { on := 1, ground := Ground.phase }, { on := 2, ground := Ground.phase }, { on := 3, ground := Ground.phase }, { on := 4, ground := Ground.phase }, { on := 5, ground := Ground.phase }, { on := 6, ground := Ground.phase }], guard := none }) (v := (.pointer (some ⟨zt, 1, none⟩))) rfl (by kernel_rfl) (by kernel_rfl) (by kernel_rfl) (fun _ _ _ h => h) (Or.inl ⟨by rfl, fun w' hS => by (try dsimp only at hS); go_simp⟩) trivial ?_
            simp only [Act.put, List.setIfInBounds_toArray, List.set_cons_zero, List.set_cons_succ]
            refine wpAnyH_ready (rs := [8]) (by kernel_rfl) (by simp) ?_
            refine AllReadyH.cons (o := { dst := none, op := Op.store 27 (Operand.tmp 25) (Operand.tmp 24), type := 0, pos := _, after := #[{ on := 7, ground := Ground.data }, { on := 6, ground := Ground.data }, { on := 6, ground := Ground.chain }, { on := 0, ground := Ground.phase }, { on := 1, ground := Ground.phase }, { on := 2, ground := Ground.phase }, { on := 3, ground := Ground.phase }, { on := 4, ground := Ground.phase }, { on := 5, ground := Ground.phase }, { on := 6, ground := Ground.phase }], guard := none }) rfl (fun K hK => ?_) AllReadyH.nil
            go_simp
            refine hK.out _ _ trivial (fun hB => ?_)
            clear hK K hB
            try simp only [Act.put, List.setIfInBounds_toArray, List.set_cons_zero, List.set_cons_succ]
            refine wpAnyH_done (by kernel_rfl) ?_ _
            refine NoPanic.normal ?_
            clear pa pb pc pd f1 p1 HRN HRN2
            go_wp2
            go_roundw
            case rel => exact ⟨j + 1, by omega, by go_num, HN.out⟩
            case measure => simp [intOf]; omega
          · go_simp
            refine hK.out _ _ trivial (fun hB => ?_)
            clear hK K hB
            try simp only [Act.put, List.setIfInBounds_toArray, List.set_cons_zero, List.set_cons_succ]
            refine wpAnyH_ready (rs := [1]) (by kernel_rfl) (by simp) ?_
            refine AllReadyH.cons (o := { dst := some 19, op := Op.load 27 (Operand.tmp 18), type := 27, pos := _, after := #[{ on := 0, ground := Ground.data }], guard := none }) rfl (fun K hK => ?_) AllReadyH.nil
            go_simp
            refine hK.out _ _ trivial (fun hB => ?_)
            clear hK K hB
            try simp only [Act.put, List.setIfInBounds_toArray, List.set_cons_zero, List.set_cons_succ]
            refine wpAnyH_ready (rs := [6]) (by kernel_rfl) (by simp) ?_
            refine AllReadyH.cons (o := { dst := some 24, op := Op.call { callee := Callee.builtin Builtin.append, args := #[Operand.tmp 19, Operand.tmp 23], argTypes := #[27, 27] }, type := 27, pos := _, after := #[{ on := 1, ground := Ground.data }, { on := 5, ground := Ground.data }, { on := 4, ground := Ground.chain }], guard := none }) rfl (fun K hK => ?_) AllReadyH.nil
            refine step_app (.tmp 19) (.tmp 23) 27 (by rfl) ?_
            refine ⟨_, _, HRN2.out, ?_⟩
            refine hK.out _ _ trivial (fun hB => ?_)
            clear hK K hB
            try simp only [Act.put, List.setIfInBounds_toArray, List.set_cons_zero, List.set_cons_succ]
            refine wpAnyH_take (i := 7) (oi := { dst := some 25, op := Op.fieldAddr 29 (Operand.tmp 3) 1, type := 0, pos := _, after := #[{ on := 0, ground := Ground.phase }, { on := 1, ground := Ground.phase }, { on := 2, ground := Ground.phase }, { on := 3, ground := Ground.phase }, { on := 4, ground := Ground.phase }, { on := 5, ground := Ground.phase }, { on := 6, ground := Ground.phase }], guard := none }) (v := (.pointer (some ⟨zt, 1, none⟩))) rfl (by kernel_rfl) (by kernel_rfl) (by kernel_rfl) (fun _ _ _ h => h) (Or.inl ⟨by rfl, fun w' hS => by (try dsimp only at hS); go_simp⟩) trivial ?_
            simp only [Act.put, List.setIfInBounds_toArray, List.set_cons_zero, List.set_cons_succ]
            refine wpAnyH_ready (rs := [8]) (by kernel_rfl) (by simp) ?_
            refine AllReadyH.cons (o := { dst := none, op := Op.store 27 (Operand.tmp 25) (Operand.tmp 24), type := 0, pos := _, after := #[{ on := 7, ground := Ground.data }, { on := 6, ground := Ground.data }, { on := 6, ground := Ground.chain }, { on := 0, ground := Ground.phase }, { on := 1, ground := Ground.phase }, { on := 2, ground := Ground.phase }, { on := 3, ground := Ground.phase }, { on := 4, ground := Ground.phase }, { on := 5, ground := Ground.phase }, { on := 6, ground := Ground.phase }], guard := none }) rfl (fun K hK => ?_) AllReadyH.nil
            go_simp
            refine hK.out _ _ trivial (fun hB => ?_)
            clear hK K hB
            try simp only [Act.put, List.setIfInBounds_toArray, List.set_cons_zero, List.set_cons_succ]
            refine wpAnyH_done (by kernel_rfl) ?_ _
            refine NoPanic.normal ?_
            clear pa pb pc pd f1 p1 HRN HRN2
            go_wp2
            go_roundw
            case rel => exact ⟨j + 1, by omega, by go_num, HN.out⟩
            case measure => simp [intOf]; omega
    · obtain rfl : j = kn := by omega
      obtain ⟨al, cl, rfl, own⟩ := HTL.out.ps (by omega)
      have hzt := HZ.out
      have hlt2 := HBX.out.lt
      have own' : BookOwn (fun x => w.heap.size + 1 < x ∧ x < wr.heap.size) wr ⟨ao, al, cap, cl⟩ ⟨4, c, ⟨j, fun _ => 4, p, m⟩⟩ := ⟨fun x => w.heap.size + 1 + 1 ≤ x ∧ x < zt, fun x => zt + 1 ≤ x ∧ x < wr.heap.size, fun x hx => ⟨⟨by omega, by omega⟩, by omega⟩, fun x hx => ⟨by omega, hx.2⟩, HO.out, own⟩
      have hm := set2_mod (X := fun x => x = w.heap.size + 1) wr rfl (.slice ao 4 cap) (.slice al j cl)
      have hs := hm.size
      have FIN : Hid (∃ b' : BV, Ending.returned ((BV.mk ao al cap cl).val ⟨4, c, ⟨j, fun _ => 4, p, m⟩⟩) = .returned (b'.val ⟨4, c, ⟨j, fun _ => 4, p, m⟩⟩) ∧ BookOwn (fun x => w.heap.size ≤ x ∧ x < ((wr.setCell ⟨w.heap.size + 1, 0, none⟩ (.slice ao 4 cap)).setCell ⟨w.heap.size + 1, 1, none⟩ (.slice al j cl)).heap.size) ((wr.setCell ⟨w.heap.size + 1, 0, none⟩ (.slice ao 4 cap)).setCell ⟨w.heap.size + 1, 1, none⟩ (.slice al j cl)) b' ⟨4, c, ⟨j, fun _ => 4, p, m⟩⟩ ∧ Blw w ((wr.setCell ⟨w.heap.size + 1, 0, none⟩ (.slice ao 4 cap)).setCell ⟨w.heap.size + 1, 1, none⟩ (.slice al j cl))) :=
        ⟨_, rfl, (own'.mod hm (fun x hx => by omega)).mono (fun x hx => by omega), set2_blw HB.out (by omega) _ _⟩
      obtain ⟨t0, t1⟩ := get2 HR.out
      obtain ⟨s0, s1⟩ := get2 HBX.out
      have f0 := HR.out.frozen 0
      have f1 := HR.out.frozen 1
      clear own own' hm hs HTL HO HR HB HBX hzt hlt2
      go_wp2
      exact bodyPost_ret (v := .agg #[.slice ao 4 cap, .slice al j cl]) (by simp [results, Try.results109, go_sem, t0, t1]) rfl FIN.out
end Go.Proofs.Ytbpdopcdhnemfaa
/- A table of the model's own that is changed. -/
namespace Go.Proofs.Ytbpdopcdhnemfaa
open Go.RowKit
set_option linter.unusedSimpArgs false
set_option linter.unusedVariables false
theorem psin_leaf {X : Nat → Prop} {W : World} {bl kn : Nat} {A : Nat → Option Addr} {C : Nat → Nat} {p m : Nat → Nat → Int} {Z : Nat → Nat → Prop} (h : PSIn X W bl A C ⟨kn, fun _ => 4, p, m⟩ Z) {q j : Nat} (hq : q < kn) (hj : j < 4) :
    ∃ gb, A q = some ⟨gb, 0, none⟩ ∧ X gb ∧ gb ≠ bl ∧ Row W gb 8 (uc (p q) (m q)) ∧ (∀ x y : Int, PSIn X ((W.setCell ⟨gb, j * 2, none⟩ (.int .i64 x)).setCell ⟨gb, j * 2 + 1, none⟩ (.int .i64 y)) bl A C ⟨kn, fun _ => 4, upd2 p q j x, upd2 m q j y⟩ Z) ∧ (∀ y : Int, PSIn X (W.setCell ⟨gb, j * 2 + 1, none⟩ (.int .i64 y)) bl A C ⟨kn, fun _ => 4, p, upd2 m q j y⟩ Z) := by
  obtain ⟨gb, hz, ea, hr⟩ := (h.own q hq).2 (by show 0 < 4; omega)
  have hr8 : Row W gb 8 (uc (p q) (m q)) := hr
  have hs := h.sub q hq gb hz
  have hoth : ∀ i, i < kn → i ≠ q → ¬ Z i gb := fun i hi hne hzi => h.dis i q hi hq hne gb hzi hz
  refine ⟨gb, ea, hs.1, hs.2, hr8, fun x y => ?_, fun y => ?_⟩
  · have hm : Mod (fun k => k = gb) W ((W.setCell ⟨gb, j * 2, none⟩ (.int .i64 x)).setCell ⟨gb, j * 2 + 1, none⟩ (.int .i64 y)) := (Mod.setCell (X := fun k => k = gb) _ (p := ⟨gb, j * 2, none⟩) rfl _).trans (Mod.setCell (X := fun k => k = gb) _ (p := ⟨gb, j * 2 + 1, none⟩) rfl _)
    refine ⟨h.row.mod hm (fun e => hs.2 e.symm), fun i hi => ?_, h.sub, h.dis, h.hb⟩
    by_cases e : i = q
    · subst e
      refine ⟨by show 4 ≤ _; omega, fun _ => ⟨gb, hz, ea, ?_⟩⟩
      refine (((hr8.set (j * 2) (.int .i64 x)).set (j * 2 + 1) (.int .i64 y)).congr (fun k hk => ?_) : Row _ gb (4 * 2) _)
      show (if k = j * 2 + 1 then _ else if k = j * 2 then _ else _) = uc (upd2 p i j x i) (upd2 m i j y i) k
      unfold uc upd2
      by_cases e1 : k = j * 2 + 1
      · have h1 : ¬ k % 2 = 0 := by omega
        have h2 : k / 2 = j := by omega
        simp [e1, h1, h2]
        omega
      · by_cases e2 : k = j * 2
        · simp [e2]
        · simp only [e1, e2, if_false]
          have h2 : ¬ k / 2 = j := by omega
          simp [h2]
    · refine (((h.own i hi).mod hm (fun b hb e2 => hoth i hi e (e2 ▸ hb))).congr (fun k hk => ?_))
      simp [upd2, e]
  · have hm : Mod (fun k => k = gb) W (W.setCell ⟨gb, j * 2 + 1, none⟩ (.int .i64 y)) := Mod.setCell (X := fun k => k = gb) _ (p := ⟨gb, j * 2 + 1, none⟩) rfl _
    refine ⟨h.row.mod hm (fun e => hs.2 e.symm), fun i hi => ?_, h.sub, h.dis, h.hb⟩
    by_cases e : i = q
    · subst e
      refine ⟨by show 4 ≤ _; omega, fun _ => ⟨gb, hz, ea, ?_⟩⟩
      refine ((hr8.set (j * 2 + 1) (.int .i64 y)).congr (fun k hk => ?_) : Row _ gb (4 * 2) _)
      show (if k = j * 2 + 1 then _ else _) = uc (p i) (upd2 m i j y i) k
      unfold uc upd2
      by_cases e1 : k = j * 2 + 1
      · have h1 : ¬ k % 2 = 0 := by omega
        have h2 : k / 2 = j := by omega
        simp [e1, h1, h2]
        omega
      · by_cases h3 : k % 2 = 0
        · simp [e1, h3]
        · have h2 : ¬ k / 2 = j := by omega
          simp [e1, h2, h3]
    · refine (((h.own i hi).mod hm (fun b hb e2 => hoth i hi e (e2 ▸ hb))).congr (fun k hk => ?_))
      simp [upd2, e]
/-- A table of one's own in a box at zb. -/
structure OT (lo zb : Nat) (W : World) (bt bl c1 c2 : Nat) (c : Nat → Int) (kn : Nat) (p m : Nat → Nat → Int) (A : Nat → Option Addr) (C : Nat → Nat) (Z : Nat → Nat → Prop) (X : Nat → Prop) : Prop where
  box : Row W zb 2 (fun i => if i = 0 then .slice (some ⟨bt, 0, none⟩) 4 c1 else .slice (some ⟨bl, 0, none⟩) kn c2)
  top : Row W bt 4 (fun i => .int .i64 (c i))
  ls : PSIn X W bl A C ⟨kn, fun _ => 4, p, m⟩ Z
  nx : ∀ x, X x → lo ≤ x ∧ x < W.heap.size ∧ x ≠ zb ∧ x ≠ bt
  nb : bt ≠ zb ∧ lo ≤ bt ∧ lo ≤ zb
theorem OT.mod {Q : Nat → Prop} {lo zb : Nat} {W W' : World} {bt bl c1 c2 : Nat} {c : Nat → Int} {kn : Nat} {p m : Nat → Nat → Int} {A : Nat → Option Addr} {C : Nat → Nat} {Z : Nat → Nat → Prop} {X : Nat → Prop} (h : OT lo zb W bt bl c1 c2 c kn p m A C Z X) (hm : Mod Q W W') (hq : ∀ x, lo ≤ x → ¬ Q x) : OT lo zb W' bt bl c1 c2 c kn p m A C Z X :=
  ⟨h.box.mod hm (hq _ h.nb.2.2), h.top.mod hm (hq _ h.nb.2.1), h.ls.mod hm (fun x hx => hq _ (h.nx x hx).1), fun x hx => by have := h.nx x hx; have := hm.size; omega, h.nb⟩
theorem OT.go {lo zb : Nat} {W W' : World} {bt bl c1 c2 : Nat} {c : Nat → Int} {kn : Nat} {p m : Nat → Nat → Int} {A : Nat → Option Addr} {C : Nat → Nat} {Z : Nat → Nat → Prop} {X : Nat → Prop} (h : OT lo zb W bt bl c1 c2 c kn p m A C Z X) (hb : Blw W W') : OT lo zb W' bt bl c1 c2 c kn p m A C Z X := h.mod (hb.mod (fun _ => False)) (fun _ _ => id)
theorem OT.make {lo : Nat} {W : World} {b : BV} {c : Nat → Int} {kn : Nat} {p m : Nat → Nat → Int} (hk : 0 < kn) (h : BookOwn (fun x => lo ≤ x ∧ x < W.heap.size) W b ⟨4, c, ⟨kn, fun _ => 4, p, m⟩⟩) (hlo : lo ≤ W.heap.size) :
    ∃ bt bl c1 c2 A C Z X, b = ⟨some ⟨bt, 0, none⟩, some ⟨bl, 0, none⟩, c1, c2⟩ ∧ OT lo W.heap.size (W.alloc (.cells #[.slice (some ⟨bt, 0, none⟩) 4 c1, .slice (some ⟨bl, 0, none⟩) kn c2] 29)) bt bl c1 c2 c kn p m A C Z X := by
  obtain ⟨a1, a2, c1, c2⟩ := b
  obtain ⟨X1, X2, d1, d2, hc, hl⟩ := h.ex
  obtain ⟨bt, hbt, e1, hr⟩ := hc.2 (by show 0 < 4; omega)
  obtain ⟨bl, A, C, Z, e2, hp⟩ := hl.2 hk
  dsimp only at e1 e2
  subst e1 e2
  have hA : Blw W (W.alloc (.cells #[.slice (some ⟨bt, 0, none⟩) 4 c1, .slice (some ⟨bl, 0, none⟩) kn c2] 29)) := (Blw.refl _).alloc _
  refine ⟨bt, bl, c1, c2, A, C, Z, X2, rfl, box2 W _ _ 29, hr.blw hA, hp.mod (hA.mod (fun _ => False)) (fun _ _ => id), fun x hx => ?_, ?_⟩
  · have := d2 x hx
    rw [World.size_alloc]
    refine ⟨by omega, by omega, by omega, fun e => (d1 bt hbt).2 (e ▸ hx)⟩
  · have := (d1 bt hbt).1
    omega
theorem OT.own {lo zb : Nat} {W : World} {bt bl c1 c2 : Nat} {c : Nat → Int} {kn : Nat} {p m : Nat → Nat → Int} {A : Nat → Option Addr} {C : Nat → Nat} {Z : Nat → Nat → Prop} {X : Nat → Prop} (h : OT lo zb W bt bl c1 c2 c kn p m A C Z X) (hk : kn ≤ 4) : BookOwn (fun x => lo ≤ x ∧ x < W.heap.size) W ⟨some ⟨bt, 0, none⟩, some ⟨bl, 0, none⟩, c1, c2⟩ ⟨4, c, ⟨kn, fun _ => 4, p, m⟩⟩ :=
  ⟨fun x => x = bt, X, fun x hx => ⟨by have := h.nb; have := h.top.lt; omega, fun hX => by have := (h.nx x hX).2.2.2; omega⟩, fun x hx => by have := h.nx x hx; omega, ⟨by show 4 ≤ _; omega, fun _ => ⟨bt, rfl, rfl, h.top⟩⟩, ⟨by show kn ≤ _; omega, fun _ => ⟨bl, A, C, Z, rfl, h.ls⟩⟩⟩
theorem OT.setTop {lo zb : Nat} {W : World} {bt bl c1 c2 : Nat} {c : Nat → Int} {kn : Nat} {p m : Nat → Nat → Int} {A : Nat → Option Addr} {C : Nat → Nat} {Z : Nat → Nat → Prop} {X : Nat → Prop} (h : OT lo zb W bt bl c1 c2 c kn p m A C Z X) (t : Nat) (v : Int) : OT lo zb (W.setCell ⟨bt, t, none⟩ (.int .i64 v)) bt bl c1 c2 (upd c t v) kn p m A C Z X := by
  have hm : Mod (fun k => k = bt) W (W.setCell ⟨bt, t, none⟩ (.int .i64 v)) := Mod.setCell (X := fun k => k = bt) _ (p := ⟨bt, t, none⟩) rfl _
  refine ⟨h.box.mod hm (fun e => h.nb.1 e.symm), (h.top.set t _).congr (fun i hi => ?_), h.ls.mod hm (fun x hx e => (h.nx x hx).2.2.2 e), fun x hx => by have := h.nx x hx; have := hm.size; omega, h.nb⟩
  unfold upd
  split <;> rfl
theorem OT.leaf {lo zb : Nat} {W : World} {bt bl c1 c2 : Nat} {c : Nat → Int} {kn : Nat} {p m : Nat → Nat → Int} {A : Nat → Option Addr} {C : Nat → Nat} {Z : Nat → Nat → Prop} {X : Nat → Prop} (h : OT lo zb W bt bl c1 c2 c kn p m A C Z X) {q j : Nat} (hq : q < kn) (hj : j < 4) :
    ∃ gb, A q = some ⟨gb, 0, none⟩ ∧ gb ≠ zb ∧ gb ≠ bt ∧ gb ≠ bl ∧ lo ≤ gb ∧ Row W gb 8 (uc (p q) (m q)) ∧ (∀ x y : Int, OT lo zb ((W.setCell ⟨gb, j * 2, none⟩ (.int .i64 x)).setCell ⟨gb, j * 2 + 1, none⟩ (.int .i64 y)) bt bl c1 c2 c kn (upd2 p q j x) (upd2 m q j y) A C Z X) ∧ (∀ y : Int, OT lo zb (W.setCell ⟨gb, j * 2 + 1, none⟩ (.int .i64 y)) bt bl c1 c2 c kn p (upd2 m q j y) A C Z X) := by
  obtain ⟨gb, ea, hX, hne, hr, h1, h2⟩ := psin_leaf h.ls hq hj
  have hn := h.nx gb hX
  refine ⟨gb, ea, hn.2.2.1, hn.2.2.2, hne, hn.1, hr, fun x y => ?_, fun y => ?_⟩
  · have hm : Mod (fun k => k = gb) W ((W.setCell ⟨gb, j * 2, none⟩ (.int .i64 x)).setCell ⟨gb, j * 2 + 1, none⟩ (.int .i64 y)) := (Mod.setCell (X := fun k => k = gb) _ (p := ⟨gb, j * 2, none⟩) rfl _).trans (Mod.setCell (X := fun k => k = gb) _ (p := ⟨gb, j * 2 + 1, none⟩) rfl _)
    exact ⟨h.box.mod hm (fun e => hn.2.2.1 e.symm), h.top.mod hm (fun e => hn.2.2.2 e.symm), h1 x y, fun x hx => by have := h.nx x hx; have := hm.size; omega, h.nb⟩
  · have hm : Mod (fun k => k = gb) W (W.setCell ⟨gb, j * 2 + 1, none⟩ (.int .i64 y)) := Mod.setCell (X := fun k => k = gb) _ (p := ⟨gb, j * 2 + 1, none⟩) rfl _
    exact ⟨h.box.mod hm (fun e => hn.2.2.1 e.symm), h.top.mod hm (fun e => hn.2.2.2 e.symm), h2 y, fun x hx => by have := h.nx x hx; have := hm.size; omega, h.nb⟩
theorem OT.topAt {lo zb : Nat} {W : World} {bt bl c1 c2 : Nat} {c : Nat → Int} {kn : Nat} {p m : Nat → Nat → Int} {A : Nat → Option Addr} {C : Nat → Nat} {Z : Nat → Nat → Prop} {X : Nat → Prop} (h : OT lo zb W bt bl c1 c2 c kn p m A C Z X) : IntsAt (fun x => x = bt) W (some ⟨bt, 0, none⟩) 4 c :=
  ⟨by omega, fun i hi => ⟨bt, 0, rfl, rfl, by rw [Nat.zero_add]; exact h.top.cell hi⟩⟩
end Go.Proofs.Ytbpdopcdhnemfaa
/- MappedIn: the program's, and the law. -/
namespace Go.Proofs.Ytbpdopcdhnemfaa
open Go.RowKit
set_option linter.unusedSimpArgs false
set_option linter.unusedVariables false
theorem lf_nonneg {n kn : Nat} {c : Nat → Int} {len : Nat → Nat} {p m : Nat → Nat → Int} (g : BD.Good ⟨n, c, ⟨kn, len, p, m⟩⟩) {a : Nat} (ha : a < 16) : 0 ≤ lfP c m a := by
  unfold lfP
  by_cases h : 0 ≤ c (a / 4)
  · rw [if_pos h]
    have hn : n = 4 := g.n
    have ht := g.top (a / 4) (by show a / 4 < n; omega)
    have ht' : c (a / 4) ≤ (kn : Int) - 1 := ht.2
    have := ((g.leaf (c (a / 4)).toNat (by show _ < kn; omega)).2 (a % 4) (by omega)).2.1.1
    exact this
  · rw [if_neg h]; omega
end Go.Proofs.Ytbpdopcdhnemfaa
/- ProtectPage: the model's. -/
namespace Go.Proofs.Ytbpdopcdhnemfaa
open Go.RowKit
set_option linter.unusedSimpArgs false
set_option linter.unusedVariables false
theorem nz8 {f g : Nat → Int} {j : Nat} {y : Int} (hj : j < 4) (hy : mayOK y) (hg : g j = y) : ¬ isZero8 f g := fun h => by
  have := (h j hj).2
  unfold mayOK at hy
  omega
theorem upd2_self {p : Nat → Nat → Int} {q j : Nat} {v : Int} (h : p q j = v) : upd2 p q j v = p := by
  funext a b; unfold upd2; split
  · next e => rw [e.1, e.2, h]
  · rfl
theorem upd2_at (p : Nat → Nat → Int) (q j : Nat) (v : Int) : upd2 p q j v q j = v := by unfold upd2; rw [if_pos ⟨rfl, rfl⟩]
theorem lf_top {c : Nat → Int} {kn x : Nat} {m : Nat → Nat → Int} (h : ¬ lfP c m x = 0) (ht : -1 ≤ c (x / 4) ∧ c (x / 4) ≤ (kn : Int) - 1) : ∃ q : Nat, c (x / 4) = q ∧ q < kn := by
  have h0 : 0 ≤ c (x / 4) := Decidable.byContradiction fun h1 => h (lfP_no h1)
  exact ⟨(c (x / 4)).toNat, by omega, by omega⟩
set_option maxRecDepth 10000 in
set_option maxHeartbeats 6400000 in
theorem specProt_any (b : BV) (B : BD) (a y : Int) (Y : Nat → Prop) (w : World) (hn : B.n ≤ 1048576) (h : BookAt Y w b B) :
    Calls Try.prog 156 #[b.val B, .int .i64 a, .int .i64 y] w (GivesB (chOut B a (fun _ oy => ¬ oy = 0 ∧ mayOK y) (fun o => o) y) w) := by
  have hA1 : Blw w (w.alloc (.cells #[.slice b.a1 B.n b.c1, .slice b.a2 B.D.n b.c2] 29)) := (Blw.refl _).alloc _
  have hA2 : Blw (w.alloc (.cells #[.slice b.a1 B.n b.c1, .slice b.a2 B.D.n b.c2] 29)) ((w.alloc (.cells #[.slice b.a1 B.n b.c1, .slice b.a2 B.D.n b.c2] 29)).alloc (.cells #[.slice none 0 0, .slice none 0 0] 29)) := (Blw.refl _).alloc _
  have HB : Hid (Blw w ((w.alloc (.cells #[.slice b.a1 B.n b.c1, .slice b.a2 B.D.n b.c2] 29)).alloc (.cells #[.slice none 0 0, .slice none 0 0] 29))) := hA1.trans hA2
  have rR := box2 (w.alloc (.cells #[.slice b.a1 B.n b.c1, .slice b.a2 B.D.n b.c2] 29)) (.slice none 0 0) (.slice none 0 0) 29
  rw [World.size_alloc] at rR
  have HR : Hid (Row ((w.alloc (.cells #[.slice b.a1 B.n b.c1, .slice b.a2 B.D.n b.c2] 29)).alloc (.cells #[.slice none 0 0, .slice none 0 0] 29)) (w.heap.size + 1) 2 (fun i => if i = 0 then .slice none 0 0 else .slice none 0 0)) := rR
  have HA : Hid (BookAt Y ((w.alloc (.cells #[.slice b.a1 B.n b.c1, .slice b.a2 B.D.n b.c2] 29)).alloc (.cells #[.slice none 0 0, .slice none 0 0] 29)) b B) := h.blw (hA1.trans hA2)
  have HA0 : Hid (Row ((w.alloc (.cells #[.slice b.a1 B.n b.c1, .slice b.a2 B.D.n b.c2] 29)).alloc (.cells #[.slice none 0 0, .slice none 0 0] 29)) w.heap.size 2 (fun i => if i = 0 then .slice b.a1 B.n b.c1 else .slice b.a2 B.D.n b.c2)) := (box2 w _ _ 29).blw hA2
  have HSZ : Hid (w.heap.size + 1 + 1 = ((w.alloc (.cells #[.slice b.a1 B.n b.c1, .slice b.a2 B.D.n b.c2] 29)).alloc (.cells #[.slice none 0 0, .slice none 0 0] 29)).heap.size) := by show _ = _; simp
  clear hA1 hA2 rR h
  go_enter Try.func156, Try.ntmps156
  obtain ⟨p0, p1⟩ := get2 HA0.out
  go_wp2_with fail
  clear p0 p1
  generalize ((w.alloc (.cells #[.slice b.a1 B.n b.c1, .slice b.a2 B.D.n b.c2] 29)).alloc (.cells #[.slice none 0 0, .slice none 0 0] 29)) = w0 at *
  refine (specGood_any b B Y _ hn HA.out).mono ?_
  rintro e w1 ⟨r, rfl, hr, hb1⟩
  have HT : Hid (r = true ↔ B.Good) := hr
  replace HSZ : Hid (w.heap.size + 1 + 1 ≤ w1.heap.size) := by have := HSZ.out; have := hb1.size; show _ ≤ _; omega
  replace HB : Hid (Blw w w1) := HB.out.trans hb1
  replace HR : Hid (Row w1 (w.heap.size + 1) 2 (fun i => if i = 0 then .slice none 0 0 else .slice none 0 0)) := HR.out.blw hb1
  replace HA0 : Hid (Row w1 w.heap.size 2 (fun i => if i = 0 then .slice b.a1 B.n b.c1 else .slice b.a2 B.D.n b.c2)) := HA0.out.blw hb1
  replace HA : Hid (BookAt Y w1 b B) := HA.out.blw hb1
  clear hr hb1
  cases r
  · have HN : Hid (¬ B.Good) := fun g => by have := HT.out.2 g; simp at this
    clear HT
    obtain ⟨t0, t1⟩ := get2 HR.out
    have f0 := HR.out.frozen 0
    have f1 := HR.out.frozen 1
    clear HR HA0
    go_wp2
    exact bodyPost_ret (v := .tuple #[BV.zero.val BD.zero, .bool false]) (by simp [results, Try.results156, go_sem, t0, t1]) rfl (zero_givesT (z := w.heap.size + 1) (by omega) (Or.inr ⟨fun q => HN.out q.1, rfl, rfl⟩) HB.out)
  have HG : Hid (B.Good) := HT.out.1 (by first | rfl | trivial)
  clear HT
  go_wp2_with fail
  refine (l6At_any a _).mono ?_
  rintro e w1 ⟨r, rfl, hr, rfl⟩
  have HT : Hid (r = true ↔ pgOK a) := hr
  clear hr
  cases r
  · have HN : Hid (¬ pgOK a) := fun g => by have := HT.out.2 g; simp at this
    clear HT
    obtain ⟨t0, t1⟩ := get2 HR.out
    have f0 := HR.out.frozen 0
    have f1 := HR.out.frozen 1
    clear HR HA0
    go_wp2
    exact bodyPost_ret (v := .tuple #[BV.zero.val BD.zero, .bool false]) (by simp [results, Try.results156, go_sem, t0, t1]) rfl (zero_givesT (z := w.heap.size + 1) (by omega) (Or.inr ⟨fun q => HN.out q.2.1, rfl, rfl⟩) HB.out)
  have H1 : Hid (pgOK a) := HT.out.1 (by first | rfl | trivial)
  clear HT
  go_wp2_with fail
  refine (l1In_any y 1 3 _).mono ?_
  rintro e w1 ⟨r, rfl, hr, rfl⟩
  have HT : Hid (r = true ↔ (1 ≤ y ∧ y ≤ 3)) := hr
  clear hr
  cases r
  · have HN : Hid (¬ (1 ≤ y ∧ y ≤ 3)) := fun g => by have := HT.out.2 g; simp at this
    clear HT
    obtain ⟨t0, t1⟩ := get2 HR.out
    have f0 := HR.out.frozen 0
    have f1 := HR.out.frozen 1
    clear HR HA0
    go_wp2
    exact bodyPost_ret (v := .tuple #[BV.zero.val BD.zero, .bool false]) (by simp [results, Try.results156, go_sem, t0, t1]) rfl (zero_givesT (z := w.heap.size + 1) (by omega) (Or.inr ⟨fun q => HN.out q.2.2.1.2, rfl, rfl⟩) HB.out)
  have H2 : Hid (mayOK y) := HT.out.1 (by first | rfl | trivial)
  clear HT
  obtain ⟨n, c, ⟨kn, len, p, m⟩⟩ := B
  obtain ⟨a1, a2, q1, q2⟩ := b
  have hn4 : n = 4 := HG.out.n
  subst hn4
  have hk4 : kn ≤ 4 := HG.out.k.2
  have hk1 : 0 < kn := HG.out.k.1
  simp only [BV.val] at *
  obtain ⟨x, hx, hx16⟩ : ∃ x : Nat, a = x ∧ x < 16 := ⟨a.toNat, by have := H1.out; unfold pgOK at this; omega, by have := H1.out; unfold pgOK at this; omega⟩
  subst hx
  have HN0 : Hid (0 ≤ lfP c m x) := lf_nonneg HG.out hx16
  obtain ⟨p0, p1⟩ := get2 HA0.out
  have hfm := fieldMay (lfP c p x) (lfP c m x)
  go_wp2_with fail
  clear p0 p1
  refine (l6Find_any ⟨a1, a2, q1, q2⟩ c kn len p m x Y _ HG.out hx16 HA.out).mono ?_
  rintro e w2 ⟨rfl, hb2⟩
  replace HB : Hid (Blw w w2) := HB.out.trans hb2
  replace HSZ : Hid (w.heap.size + 1 + 1 ≤ w2.heap.size) := by have := HSZ.out; have := hb2.size; show _ ≤ _; omega
  replace HR : Hid (Row w2 (w.heap.size + 1) 2 (fun i => if i = 0 then .slice none 0 0 else .slice none 0 0)) := HR.out.blw hb2
  replace HA0 : Hid (Row w2 w.heap.size 2 (fun i => if i = 0 then .slice a1 4 q1 else .slice a2 kn q2)) := HA0.out.blw hb2
  replace HA : Hid (BookAt Y w2 ⟨a1, a2, q1, q2⟩ ⟨4, c, ⟨kn, len, p, m⟩⟩) := HA.out.blw hb2
  clear hb2
  by_cases h0 : lfP c m x = 0
  · have HN : Hid (lfP c m x = 0) := h0
    have d1 : (lfP c m x == 0) = true := by simp [h0]
    clear h0
    obtain ⟨t0, t1⟩ := get2 HR.out
    have f0 := HR.out.frozen 0
    have f1 := HR.out.frozen 1
    clear HR HA0
    go_wp2
    exact bodyPost_ret (v := .tuple #[BV.zero.val BD.zero, .bool false]) (by simp [results, Try.results156, go_sem, t0, t1]) rfl (zero_givesT (z := w.heap.size + 1) (by omega) (Or.inr ⟨fun q => q.2.2.1.1 (by rw [Int.toNat_natCast]; exact HN.out), rfl, rfl⟩) HB.out)
  have HN : Hid (¬ lfP c m x = 0) := h0
  have d1 : (lfP c m x == 0) = false := by simp [h0]
  clear h0
  obtain ⟨p0, p1⟩ := get2 HA0.out
  go_wp2_with fail
  clear p0 p1 hfm
  refine (l6Own_any ⟨a1, a2, q1, q2⟩ c kn len p m Y _ hk4 (fun i hi => (HG.out.leaf i hi).1) HA.out).mono ?_
  rintro e w3 ⟨b3, rfl, own, hb3⟩
  have hs3 := HSZ.out
  have hs4 := hb3.size
  obtain ⟨bt, bl, c1, c2, A, C, Z, X, rfl, hOT⟩ := OT.make (lo := w.heap.size + 1 + 1) hk1 (own.mono (fun x hx => ⟨by omega, hx.2⟩)) (by omega)
  have hA3 : Blw w3 (w3.alloc (.cells #[.slice (some ⟨bt, 0, none⟩) 4 c1, .slice (some ⟨bl, 0, none⟩) kn c2] 29)) := (Blw.refl _).alloc _
  have HOT : Hid (OT (w.heap.size + 1 + 1) w3.heap.size (w3.alloc (.cells #[.slice (some ⟨bt, 0, none⟩) 4 c1, .slice (some ⟨bl, 0, none⟩) kn c2] 29)) bt bl c1 c2 c kn p m A C Z X) := hOT
  replace HB : Hid (Blw w (w3.alloc (.cells #[.slice (some ⟨bt, 0, none⟩) 4 c1, .slice (some ⟨bl, 0, none⟩) kn c2] 29))) := HB.out.trans (hb3.trans hA3)
  replace HR : Hid (Row (w3.alloc (.cells #[.slice (some ⟨bt, 0, none⟩) 4 c1, .slice (some ⟨bl, 0, none⟩) kn c2] 29)) (w.heap.size + 1) 2 (fun i => if i = 0 then .slice none 0 0 else .slice none 0 0)) := HR.out.blw (hb3.trans hA3)
  have hd : Int.tdiv (x : Int) 4 = ((x / 4 : Nat) : Int) := by rw [Int.tdiv_eq_ediv_of_nonneg (by omega)]; rfl
  have hr : Int.tmod (x : Int) 4 = ((x % 4 : Nat) : Int) := by rw [Int.tmod_eq_emod_of_nonneg (by omega)]; rfl
  have hd4 : x / 4 < 4 := by omega
  have hr4 : x % 4 < 4 := by omega
  have hd4' : ((x / 4 : Nat) : Int) < 4 := by omega
  have hr4' : ((x % 4 : Nat) : Int) < 4 := by omega
  have htop := HG.out.top (x / 4) hd4
  dsimp only at htop
  clear own hb3 hA3 hs3 hs4 hOT HA HA0
  obtain ⟨q, hcq, hqk⟩ := lf_top HN.out htop
  have HCQ : Hid (c (x / 4) = q) := hcq
  have hqk' : (q : Int) < (kn : Int) := by omega
  have HOUT : Hid (chOut ⟨4, c, ⟨kn, len, p, m⟩⟩ (x : Int) (fun _ oy => ¬ oy = 0 ∧ mayOK y) (fun o => o) y ⟨4, c, ⟨kn, fun _ => 4, p, upd2 m q (x % 4) y⟩⟩ true) := by
    refine Or.inl ⟨⟨HG.out, H1.out, by rw [Int.toNat_natCast]; exact ⟨HN.out, H2.out⟩, q, by rw [Int.toNat_natCast]; exact Or.inl hcq⟩, ⟨q, by rw [Int.toNat_natCast]; exact Or.inl hcq, ?_⟩, rfl⟩
    rw [Int.toNat_natCast]
    unfold chB
    dsimp only
    rw [topsOf_no (nz8 hr4 H2.out (upd2_at _ _ _ _)), upd_self hcq, upd2_self (lfP_yes hcq).symm]
  clear hcq htop HN HN0
  go_upto_region 4 with fail
  generalize w3.alloc (.cells #[.slice (some ⟨bt, 0, none⟩) 4 c1, .slice (some ⟨bl, 0, none⟩) kn c2] 29) = W at *
  generalize w3.heap.size = zb at *
  generalize x / 4 = t at *
  generalize x % 4 = j at *
  replace HOT : Hid (OT (w.heap.size + 1 + 1) zb W.drew bt bl c1 c2 c kn p m A C Z X) := HOT.out.go (Blw.refl _).drew
  replace HB : Hid (Blw w W.drew) := HB.out.drew
  replace HR : Hid (Row W.drew (w.heap.size + 1) 2 (fun i => if i = 0 then .slice none 0 0 else .slice none 0 0)) := HR.out.blw (Blw.refl _).drew
  obtain ⟨gb, ea, n1, n2, n3, hlo, hr8, hs2, hs1⟩ := HOT.out.leaf hqk hr4
  have bx := HOT.out.box
  have tp := HOT.out.top.cell hd4
  rw [HCQ.out] at tp
  have ls := HOT.out.ls.row.cell hqk
  dsimp only at ls
  rw [ea] at ls
  have f1 := hr8.frozen (j * 2 + 1)
  have l1 : W.drew.cell? ⟨gb, j * 2 + 1, none⟩ = some (.int .i64 (m q j)) := by rw [hr8.cell (i := j * 2 + 1) (by omega), (uc_at _ _ j).2]
  obtain ⟨x0, x1⟩ := get2 bx
  have HOTF : Hid (OT (w.heap.size + 1 + 1) zb (W.drew.setCell ⟨gb, j * 2 + 1, none⟩ (.int .i64 y)) bt bl c1 c2 c kn p (upd2 m q j y) A C Z X) := hs1 y
  have ms : Mod (fun x => x = gb) W.drew (W.drew.setCell ⟨gb, j * 2 + 1, none⟩ (.int .i64 y)) := Mod.setCell (X := fun x => x = gb) _ (p := ⟨gb, j * 2 + 1, none⟩) rfl _
  have HB' : Hid (Blw w (W.drew.setCell ⟨gb, j * 2 + 1, none⟩ (.int .i64 y))) := Mod.blw HB.out ms (fun i hi => by omega)
  have HR' : Hid (Row (W.drew.setCell ⟨gb, j * 2 + 1, none⟩ (.int .i64 y)) (w.heap.size + 1) 2 (fun i => if i = 0 then .slice none 0 0 else .slice none 0 0)) := HR.out.mod ms (by omega)
  clear hs1 hs2 hr8 ms bx HOT HB HR ea hlo
  have hwt : IntKind.i64.wrap ((t : Nat) : Int) = t := by rw [IntKind.wrap_i64]; omega
  have hwj : IntKind.i64.wrap ((j : Nat) : Int) = j := by rw [IntKind.wrap_i64]; omega
  have hS0 := And.intro x0 (And.intro x1 (And.intro tp ls))
  refine wp_region_noPanic ?_
  refine wp_region_held_drew (S := fun (w' : World) => w'.cell? ⟨zb, 0, none⟩ = some (.slice (some ⟨bt, 0, none⟩) 4 c1) ∧ w'.cell? ⟨zb, 1, none⟩ = some (.slice (some ⟨bl, 0, none⟩) kn c2) ∧ w'.cell? ⟨bt, t, none⟩ = some (.int .i64 q) ∧ w'.cell? ⟨bl, q, none⟩ = some (.slice (some ⟨gb, 0, none⟩) 4 (C q))) (by kernel_rfl) hS0 (fun hB => ?_)
  clear hB
  generalize W.drew = wd at *
  refine wpAnyH_take (i := 0) (oi := { dst := some 32, op := Op.fieldAddr 29 (Operand.tmp 8) 1, type := 0, pos := _, after := #[], guard := none }) (v := (.pointer (some ⟨zb, 1, none⟩))) rfl (by kernel_rfl) (by kernel_rfl) (by kernel_rfl) (fun _ _ _ h => h) (Or.inl ⟨by rfl, fun w' hS => by (try dsimp only at hS); go_simp⟩) hS0 ?_
  simp only [Act.put, List.setIfInBounds_toArray, List.set_cons_zero, List.set_cons_succ]
  refine wpAnyH_take (i := 2) (oi := { dst := some 34, op := Op.fieldAddr 29 (Operand.tmp 8) 0, type := 0, pos := _, after := #[], guard := none }) (v := (.pointer (some ⟨zb, 0, none⟩))) rfl (by kernel_rfl) (by kernel_rfl) (by kernel_rfl) (fun _ _ _ h => h) (Or.inl ⟨by rfl, fun w' hS => by (try dsimp only at hS); go_simp⟩) hS0 ?_
  simp only [Act.put, List.setIfInBounds_toArray, List.set_cons_zero, List.set_cons_succ]
  refine wpAnyH_take (i := 4) (oi := { dst := some 36, op := Op.move (Operand.tmp 1), type := 3, pos := _, after := #[], guard := none }) (v := (.int .i64 x)) rfl (by kernel_rfl) (by kernel_rfl) (by kernel_rfl) (fun _ _ _ h => h) (Or.inl ⟨by rfl, fun w' hS => by (try dsimp only at hS); go_simp⟩) hS0 ?_
  simp only [Act.put, List.setIfInBounds_toArray, List.set_cons_zero, List.set_cons_succ]
  refine wpAnyH_take (i := 10) (oi := { dst := some 42, op := Op.move (Operand.tmp 1), type := 3, pos := _, after := #[], guard := none }) (v := (.int .i64 x)) rfl (by kernel_rfl) (by kernel_rfl) (by kernel_rfl) (fun _ _ _ h => h) (Or.inl ⟨by rfl, fun w' hS => by (try dsimp only at hS); go_simp⟩) hS0 ?_
  simp only [Act.put, List.setIfInBounds_toArray, List.set_cons_zero, List.set_cons_succ]
  refine wpAnyH_take (i := 12) (oi := { dst := some 44, op := Op.move (Operand.tmp 2), type := 3, pos := _, after := #[], guard := none }) (v := (.int .i64 y)) rfl (by kernel_rfl) (by kernel_rfl) (by kernel_rfl) (fun _ _ _ h => h) (Or.inl ⟨by rfl, fun w' hS => by (try dsimp only at hS); go_simp⟩) hS0 ?_
  simp only [Act.put, List.setIfInBounds_toArray, List.set_cons_zero, List.set_cons_succ]
  refine wpAnyH_take (i := 1) (oi := { dst := some 33, op := Op.load 27 (Operand.tmp 32), type := 27, pos := _, after := #[{ on := 0, ground := Ground.data }], guard := none }) (v := (.slice (some ⟨bl, 0, none⟩) kn c2)) rfl (by kernel_rfl) (by kernel_rfl) (by kernel_rfl) (fun _ _ _ h => h) (Or.inl ⟨by rfl, fun w' hS => by (try dsimp only at hS); go_simp⟩) hS0 ?_
  simp only [Act.put, List.setIfInBounds_toArray, List.set_cons_zero, List.set_cons_succ]
  refine wpAnyH_take (i := 3) (oi := { dst := some 35, op := Op.load 26 (Operand.tmp 34), type := 26, pos := _, after := #[{ on := 2, ground := Ground.data }], guard := none }) (v := (.slice (some ⟨bt, 0, none⟩) 4 c1)) rfl (by kernel_rfl) (by kernel_rfl) (by kernel_rfl) (fun _ _ _ h => h) (Or.inl ⟨by rfl, fun w' hS => by (try dsimp only at hS); go_simp⟩) hS0 ?_
  simp only [Act.put, List.setIfInBounds_toArray, List.set_cons_zero, List.set_cons_succ]
  refine wpAnyH_take (i := 5) (oi := { dst := some 37, op := Op.binOp BinOp.quo 3 (Operand.tmp 36) (Operand.const (Value.int IntKind.i64 4)) 3, type := 3, pos := _, after := #[{ on := 4, ground := Ground.data }], guard := none }) (v := (.int .i64 t)) rfl (by kernel_rfl) (by kernel_rfl) (by kernel_rfl) (fun _ _ _ h => h) (Or.inl ⟨by rfl, fun w' hS => by (try dsimp only at hS); go_simp⟩) hS0 ?_
  simp only [Act.put, List.setIfInBounds_toArray, List.set_cons_zero, List.set_cons_succ]
  refine wpAnyH_take (i := 11) (oi := { dst := some 43, op := Op.binOp BinOp.rem 3 (Operand.tmp 42) (Operand.const (Value.int IntKind.i64 4)) 3, type := 3, pos := _, after := #[{ on := 10, ground := Ground.data }], guard := none }) (v := (.int .i64 j)) rfl (by kernel_rfl) (by kernel_rfl) (by kernel_rfl) (fun _ _ _ h => h) (Or.inl ⟨by rfl, fun w' hS => by (try dsimp only at hS); go_simp⟩) hS0 ?_
  simp only [Act.put, List.setIfInBounds_toArray, List.set_cons_zero, List.set_cons_succ]
  refine wpAnyH_take (i := 6) (oi := { dst := some 38, op := Op.indexAddr 26 (Operand.tmp 35) (Operand.tmp 37), type := 0, pos := _, after := #[{ on := 3, ground := Ground.data }, { on := 5, ground := Ground.data }], guard := none }) (v := (.pointer (some ⟨bt, t, none⟩))) rfl (by kernel_rfl) (by kernel_rfl) (by kernel_rfl) (fun _ _ _ h => h) (Or.inl ⟨by rfl, fun w' hS => by (try dsimp only at hS); go_simp⟩) hS0 ?_
  simp only [Act.put, List.setIfInBounds_toArray, List.set_cons_zero, List.set_cons_succ]
  refine wpAnyH_take (i := 7) (oi := { dst := some 39, op := Op.load 3 (Operand.tmp 38), type := 3, pos := _, after := #[{ on := 6, ground := Ground.data }], guard := none }) (v := (.int .i64 q)) rfl (by kernel_rfl) (by kernel_rfl) (by kernel_rfl) (fun _ _ _ h => h) (Or.inl ⟨by rfl, fun w' hS => by (try dsimp only at hS); go_simp⟩) hS0 ?_
  simp only [Act.put, List.setIfInBounds_toArray, List.set_cons_zero, List.set_cons_succ]
  refine wpAnyH_take (i := 8) (oi := { dst := some 40, op := Op.indexAddr 27 (Operand.tmp 33) (Operand.tmp 39), type := 0, pos := _, after := #[{ on := 1, ground := Ground.data }, { on := 7, ground := Ground.data }], guard := none }) (v := (.pointer (some ⟨bl, q, none⟩))) rfl (by kernel_rfl) (by kernel_rfl) (by kernel_rfl) (fun _ _ _ h => h) (Or.inl ⟨by rfl, fun w' hS => by (try dsimp only at hS); go_simp⟩) hS0 ?_
  simp only [Act.put, List.setIfInBounds_toArray, List.set_cons_zero, List.set_cons_succ]
  refine wpAnyH_take (i := 9) (oi := { dst := some 41, op := Op.load 186 (Operand.tmp 40), type := 186, pos := _, after := #[{ on := 8, ground := Ground.data }], guard := none }) (v := (.slice (some ⟨gb, 0, none⟩) 4 (C q))) rfl (by kernel_rfl) (by kernel_rfl) (by kernel_rfl) (fun _ _ _ h => h) (Or.inl ⟨by rfl, fun w' hS => by (try dsimp only at hS); go_simp⟩) hS0 ?_
  simp only [Act.put, List.setIfInBounds_toArray, List.set_cons_zero, List.set_cons_succ]
  refine wpAnyH_take (i := 13) (oi := { dst := some 45, op := Op.indexAddr 186 (Operand.tmp 41) (Operand.tmp 43), type := 0, pos := _, after := #[{ on := 9, ground := Ground.data }, { on := 11, ground := Ground.data }, { on := 0, ground := Ground.phase }, { on := 1, ground := Ground.phase }, { on := 2, ground := Ground.phase }, { on := 3, ground := Ground.phase }, { on := 4, ground := Ground.phase }, { on := 5, ground := Ground.phase }, { on := 6, ground := Ground.phase }, { on := 7, ground := Ground.phase }, { on := 8, ground := Ground.phase }, { on := 9, ground := Ground.phase }, { on := 10, ground := Ground.phase }, { on := 11, ground := Ground.phase }, { on := 12, ground := Ground.phase }], guard := none }) (v := (.pointer (some ⟨gb, j * 2, none⟩))) rfl (by kernel_rfl) (by kernel_rfl) (by kernel_rfl) (fun _ _ _ h => h) (Or.inl ⟨by rfl, fun w' hS => by (try dsimp only at hS); go_simp⟩) hS0 ?_
  simp only [Act.put, List.setIfInBounds_toArray, List.set_cons_zero, List.set_cons_succ]
  refine wpAnyH_take (i := 14) (oi := { dst := some 46, op := Op.fieldAddr 189 (Operand.tmp 45) 1, type := 0, pos := _, after := #[{ on := 13, ground := Ground.data }, { on := 0, ground := Ground.phase }, { on := 1, ground := Ground.phase }, { on := 2, ground := Ground.phase }, { on := 3, ground := Ground.phase }, { on := 4, ground := Ground.phase }, { on := 5, ground := Ground.phase }, { on := 6, ground := Ground.phase }, { on := 7, ground := Ground.phase }, { on := 8, ground := Ground.phase }, { on := 9, ground := Ground.phase }, { on := 10, ground := Ground.phase }, { on := 11, ground := Ground.phase }, { on := 12, ground := Ground.phase }], guard := none }) (v := (.pointer (some ⟨gb, j * 2 + 1, none⟩))) rfl (by kernel_rfl) (by kernel_rfl) (by kernel_rfl) (fun _ _ _ h => h) (Or.inl ⟨by rfl, fun w' hS => by (try dsimp only at hS); go_simp⟩) hS0 ?_
  simp only [Act.put, List.setIfInBounds_toArray, List.set_cons_zero, List.set_cons_succ]
  refine wpAnyH_ready (rs := [15]) (by kernel_rfl) (by simp) ?_
  refine AllReadyH.cons (o := { dst := none, op := Op.store 3 (Operand.tmp 46) (Operand.tmp 44), type := 0, pos := _, after := #[{ on := 14, ground := Ground.data }, { on := 12, ground := Ground.data }, { on := 0, ground := Ground.phase }, { on := 1, ground := Ground.phase }, { on := 2, ground := Ground.phase }, { on := 3, ground := Ground.phase }, { on := 4, ground := Ground.phase }, { on := 5, ground := Ground.phase }, { on := 6, ground := Ground.phase }, { on := 7, ground := Ground.phase }, { on := 8, ground := Ground.phase }, { on := 9, ground := Ground.phase }, { on := 10, ground := Ground.phase }, { on := 11, ground := Ground.phase }, { on := 12, ground := Ground.phase }], guard := none }) rfl (fun K hK => ?_) AllReadyH.nil
  go_simp
  have mS : Mod (fun x => x = gb) wd (wd.setCell ⟨gb, j * 2 + 1, none⟩ (.int .i64 y)) := Mod.setCell (X := fun x => x = gb) _ (p := ⟨gb, j * 2 + 1, none⟩) rfl _
  have hSt := And.intro (mS.cell x0 (fun e => n1 e.symm)) (And.intro (mS.cell x1 (fun e => n1 e.symm)) (And.intro (mS.cell tp (fun e => n2 e.symm)) (mS.cell ls (fun e => n3 e.symm))))
  clear mS
  refine hK.out _ _ hSt (fun hB => ?_)
  clear hK K hB
  try simp only [Act.put, List.setIfInBounds_toArray, List.set_cons_zero, List.set_cons_succ]
  refine wpAnyH_done (by kernel_rfl) ?_ _
  refine NoPanic.normal ?_
  clear hSt hS0 x0 x1 tp ls f1 l1
  replace HB : Hid (Blw w (wd.setCell ⟨gb, j * 2 + 1, none⟩ (.int .i64 y))) := HB'.out
  replace HR : Hid (Row (wd.setCell ⟨gb, j * 2 + 1, none⟩ (.int .i64 y)) (w.heap.size + 1) 2 (fun i => if i = 0 then .slice none 0 0 else .slice none 0 0)) := HR'.out
  clear HB' HR'
  generalize wd.setCell ⟨gb, j * 2 + 1, none⟩ (.int .i64 y) = WF at *
  have hzr := HR.out.lt
  have hzb := HOTF.out.nb.2.2
  have FIN : Hid _ := fin_givesT (out := chOut ⟨4, c, ⟨kn, len, p, m⟩⟩ (x : Int) (fun _ oy => ¬ oy = 0 ∧ mayOK y) (fun o => o) y) (w := w) (W := WF) (z := w.heap.size + 1) (b := ⟨some ⟨bt, 0, none⟩, some ⟨bl, 0, none⟩, c1, c2⟩) (R := ⟨4, c, ⟨kn, fun _ => 4, p, upd2 m q j y⟩⟩) (by omega) HOUT.out (tot4 (c := c) hk4) HB.out (HOTF.out.own hk4) (fun x hx => ⟨by omega, by omega, hx.2⟩)
  obtain ⟨t0, t1⟩ := get2 HR.out
  obtain ⟨s0, s1⟩ := get2 HOTF.out.box
  have f0 := HR.out.frozen 0
  have f1 := HR.out.frozen 1
  clear HR HB HOTF HOUT hzr hzb
  go_wp2
  exact bodyPost_ret (v := .tuple #[(BV.mk (some ⟨bt, 0, none⟩) (some ⟨bl, 0, none⟩) c1 c2).val ⟨4, c, ⟨kn, fun _ => 4, p, upd2 m q j y⟩⟩, .bool true]) (by simp [results, Try.results156, go_sem, t0, t1]) rfl FIN.out
end Go.Proofs.Ytbpdopcdhnemfaa
