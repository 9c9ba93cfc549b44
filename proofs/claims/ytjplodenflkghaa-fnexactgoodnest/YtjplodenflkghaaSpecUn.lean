/- UnmapPage: the model's. -/
import Derived.Test.YtjplodenflkghaaSpecPr
namespace Go.Proofs.Ytjplodenflkghaa
open Go.RowKit
set_option linter.unusedSimpArgs false
set_option linter.unusedVariables false
theorem zero_noMay {kn q j : Nat} {c : Nat → Int} {len : Nat → Nat} {p m : Nat → Nat → Int} (g : BD.Good ⟨4, c, ⟨kn, len, p, m⟩⟩) (hq : q < kn) : isZero8 (upd2 p q j 0 q) (upd2 m q j 0 q) ↔ noMay (upd2 m q j 0 q) 4 := by
  constructor
  · intro h i hi
    rw [(h i hi).2]; omega
  · intro h i hi
    have hm := h i hi
    unfold upd2 at *
    by_cases e : i = j
    · simp [e]
    · have e2 : ¬ (q = q ∧ i = j) := fun k => e k.2
      rw [if_neg e2] at hm
      rw [if_neg e2, if_neg e2]
      have hl := (g.leaf q hq).2 i hi
      have hl' : leafOK (p q i) (m q i) := hl
      unfold leafOK at hl'
      omega
set_option maxRecDepth 10000 in
set_option maxHeartbeats 6400000 in
theorem specUnmap_any (b : BV) (B : BD) (a : Int) (Y : Nat → Prop) (w : World) (hn : B.n ≤ 1048576) (h : BookAt Y w b B) :
    Calls Try.prog 148 #[b.val B, .int .i64 a] w (GivesB (chOut B a (fun _ oy => ¬ oy = 0) (fun _ => 0) 0) w) := by
  have hA1 : Blw w (w.alloc (.cells #[.slice b.a1 B.n b.c1, .slice b.a2 B.D.n b.c2] 29)) := (Blw.refl _).alloc _
  have hA2 : Blw (w.alloc (.cells #[.slice b.a1 B.n b.c1, .slice b.a2 B.D.n b.c2] 29)) ((w.alloc (.cells #[.slice b.a1 B.n b.c1, .slice b.a2 B.D.n b.c2] 29)).alloc (.cells #[.slice none 0 0, .slice none 0 0] 29)) := (Blw.refl _).alloc _
  have HB : Hid (Blw w ((w.alloc (.cells #[.slice b.a1 B.n b.c1, .slice b.a2 B.D.n b.c2] 29)).alloc (.cells #[.slice none 0 0, .slice none 0 0] 29))) := hA1.trans hA2
  have rR := box2 (w.alloc (.cells #[.slice b.a1 B.n b.c1, .slice b.a2 B.D.n b.c2] 29)) (.slice none 0 0) (.slice none 0 0) 29
  rw [World.size_alloc] at rR
  have HR : Hid (Row ((w.alloc (.cells #[.slice b.a1 B.n b.c1, .slice b.a2 B.D.n b.c2] 29)).alloc (.cells #[.slice none 0 0, .slice none 0 0] 29)) (w.heap.size + 1) 2 (fun i => if i = 0 then .slice none 0 0 else .slice none 0 0)) := rR
  have HA : Hid (BookAt Y ((w.alloc (.cells #[.slice b.a1 B.n b.c1, .slice b.a2 B.D.n b.c2] 29)).alloc (.cells #[.slice none 0 0, .slice none 0 0] 29)) b B) := h.blw (hA1.trans hA2)
  have HA0 : Hid (Row ((w.alloc (.cells #[.slice b.a1 B.n b.c1, .slice b.a2 B.D.n b.c2] 29)).alloc (.cells #[.slice none 0 0, .slice none 0 0] 29)) w.heap.size 2 (fun i => if i = 0 then .slice b.a1 B.n b.c1 else .slice b.a2 B.D.n b.c2)) := (box2 w _ _ 29).blw hA2
  have HSZ : Hid (w.heap.size + 1 + 1 = ((w.alloc (.cells #[.slice b.a1 B.n b.c1, .slice b.a2 B.D.n b.c2] 29)).alloc (.cells #[.slice none 0 0, .slice none 0 0] 29)).heap.size) := by show _ = _; simp
  clear hA1 hA2 rR h
  go_enter Try.func148, Try.ntmps148
  obtain ⟨p0, p1⟩ := get2 HA0.out
  go_wp2_with fail
  clear p0 p1
  generalize ((w.alloc (.cells #[.slice b.a1 B.n b.c1, .slice b.a2 B.D.n b.c2] 29)).alloc (.cells #[.slice none 0 0, .slice none 0 0] 29)) = w0 at *
  refine (specGood_any b B Y _ hn HA.out).mono ?_
  rintro e w1 ⟨r, rfl, hr, hb1⟩
  have HT : Hid (r = true ↔ B.Good) := hr
  replace HSZ : Hid (w.heap.size + 1 + 1 ≤ w1.heap.size) := by have := HSZ.out; have := hb1.size; show _ ≤ _; omega
  replace HB : Hid (Blw w w1) := HB.out.trans hb1
  replace HR : Hid (Row w1 (w.heap.size + 1) 2 (fun i => if i = 0 then .slice none 0 0 else .slice none 0 0)) := HR.out.blw hb1
  replace HA0 : Hid (Row w1 w.heap.size 2 (fun i => if i = 0 then .slice b.a1 B.n b.c1 else .slice b.a2 B.D.n b.c2)) := HA0.out.blw hb1
  replace HA : Hid (BookAt Y w1 b B) := HA.out.blw hb1
  clear hr hb1
  cases r
  · have HN : Hid (¬ B.Good) := fun g => by have := HT.out.2 g; simp at this
    clear HT
    obtain ⟨t0, t1⟩ := get2 HR.out
    have f0 := HR.out.frozen 0
    have f1 := HR.out.frozen 1
    clear HR HA0
    go_wp2
    exact bodyPost_ret (v := .tuple #[BV.zero.val BD.zero, .bool false]) (by simp [results, Try.results148, go_sem, t0, t1]) rfl (zero_givesT (z := w.heap.size + 1) (by omega) (Or.inr ⟨fun q => HN.out q.1, rfl, rfl⟩) HB.out)
  have HG : Hid (B.Good) := HT.out.1 (by first | rfl | trivial)
  clear HT
  go_wp2_with fail
  refine (l6At_any a _).mono ?_
  rintro e w1 ⟨r, rfl, hr, rfl⟩
  have HT : Hid (r = true ↔ pgOK a) := hr
  clear hr
  cases r
  · have HN : Hid (¬ pgOK a) := fun g => by have := HT.out.2 g; simp at this
    clear HT
    obtain ⟨t0, t1⟩ := get2 HR.out
    have f0 := HR.out.frozen 0
    have f1 := HR.out.frozen 1
    clear HR HA0
    go_wp2
    exact bodyPost_ret (v := .tuple #[BV.zero.val BD.zero, .bool false]) (by simp [results, Try.results148, go_sem, t0, t1]) rfl (zero_givesT (z := w.heap.size + 1) (by omega) (Or.inr ⟨fun q => HN.out q.2.1, rfl, rfl⟩) HB.out)
  have H1 : Hid (pgOK a) := HT.out.1 (by first | rfl | trivial)
  clear HT
  obtain ⟨n, c, ⟨kn, len, p, m⟩⟩ := B
  obtain ⟨a1, a2, q1, q2⟩ := b
  have hn4 : n = 4 := HG.out.n
  subst hn4
  have hk4 : kn ≤ 4 := HG.out.k.2
  have hk1 : 0 < kn := HG.out.k.1
  simp only [BV.val] at *
  obtain ⟨x, hx, hx16⟩ : ∃ x : Nat, a = x ∧ x < 16 := ⟨a.toNat, by have := H1.out; unfold pgOK at this; omega, by have := H1.out; unfold pgOK at this; omega⟩
  subst hx
  have HN0 : Hid (0 ≤ lfP c m x) := lf_nonneg HG.out hx16
  obtain ⟨p0, p1⟩ := get2 HA0.out
  have hfm := fieldMay (lfP c p x) (lfP c m x)
  go_wp2_with fail
  clear p0 p1
  refine (l6Find_any ⟨a1, a2, q1, q2⟩ c kn len p m x Y _ HG.out hx16 HA.out).mono ?_
  rintro e w2 ⟨rfl, hb2⟩
  replace HB : Hid (Blw w w2) := HB.out.trans hb2
  replace HSZ : Hid (w.heap.size + 1 + 1 ≤ w2.heap.size) := by have := HSZ.out; have := hb2.size; show _ ≤ _; omega
  replace HR : Hid (Row w2 (w.heap.size + 1) 2 (fun i => if i = 0 then .slice none 0 0 else .slice none 0 0)) := HR.out.blw hb2
  replace HA0 : Hid (Row w2 w.heap.size 2 (fun i => if i = 0 then .slice a1 4 q1 else .slice a2 kn q2)) := HA0.out.blw hb2
  replace HA : Hid (BookAt Y w2 ⟨a1, a2, q1, q2⟩ ⟨4, c, ⟨kn, len, p, m⟩⟩) := HA.out.blw hb2
  clear hb2
  by_cases h0 : lfP c m x = 0
  · have HN : Hid (lfP c m x = 0) := h0
    have d1 : (lfP c m x == 0) = true := by simp [h0]
    clear h0
    obtain ⟨t0, t1⟩ := get2 HR.out
    have f0 := HR.out.frozen 0
    have f1 := HR.out.frozen 1
    clear HR HA0
    go_wp2
    exact bodyPost_ret (v := .tuple #[BV.zero.val BD.zero, .bool false]) (by simp [results, Try.results148, go_sem, t0, t1]) rfl (zero_givesT (z := w.heap.size + 1) (by omega) (Or.inr ⟨fun q => q.2.2.1 (by rw [Int.toNat_natCast]; exact HN.out), rfl, rfl⟩) HB.out)
  have HN : Hid (¬ lfP c m x = 0) := h0
  have d1 : (lfP c m x == 0) = false := by simp [h0]
  clear h0
  obtain ⟨p0, p1⟩ := get2 HA0.out
  go_wp2_with fail
  clear p0 p1 hfm
  refine (l6Own_any ⟨a1, a2, q1, q2⟩ c kn len p m Y _ hk4 (fun i hi => (HG.out.leaf i hi).1) HA.out).mono ?_
  rintro e w3 ⟨b3, rfl, own, hb3⟩
  have hs3 := HSZ.out
  have hs4 := hb3.size
  obtain ⟨bt, bl, c1, c2, A, C, Z, X, rfl, hOT⟩ := OT.make (lo := w.heap.size + 1 + 1) hk1 (own.mono (fun x hx => ⟨by omega, hx.2⟩)) (by omega)
  have hA3 : Blw w3 (w3.alloc (.cells #[.slice (some ⟨bt, 0, none⟩) 4 c1, .slice (some ⟨bl, 0, none⟩) kn c2] 29)) := (Blw.refl _).alloc _
  have HOT : Hid (OT (w.heap.size + 1 + 1) w3.heap.size (w3.alloc (.cells #[.slice (some ⟨bt, 0, none⟩) 4 c1, .slice (some ⟨bl, 0, none⟩) kn c2] 29)) bt bl c1 c2 c kn p m A C Z X) := hOT
  replace HB : Hid (Blw w (w3.alloc (.cells #[.slice (some ⟨bt, 0, none⟩) 4 c1, .slice (some ⟨bl, 0, none⟩) kn c2] 29))) := HB.out.trans (hb3.trans hA3)
  replace HR : Hid (Row (w3.alloc (.cells #[.slice (some ⟨bt, 0, none⟩) 4 c1, .slice (some ⟨bl, 0, none⟩) kn c2] 29)) (w.heap.size + 1) 2 (fun i => if i = 0 then .slice none 0 0 else .slice none 0 0)) := HR.out.blw (hb3.trans hA3)
  have hd : Int.tdiv (x : Int) 4 = ((x / 4 : Nat) : Int) := by rw [Int.tdiv_eq_ediv_of_nonneg (by omega)]; rfl
  have hr : Int.tmod (x : Int) 4 = ((x % 4 : Nat) : Int) := by rw [Int.tmod_eq_emod_of_nonneg (by omega)]; rfl
  have hd4 : x / 4 < 4 := by omega
  have hr4 : x % 4 < 4 := by omega
  have hd4' : ((x / 4 : Nat) : Int) < 4 := by omega
  have hr4' : ((x % 4 : Nat) : Int) < 4 := by omega
  have htop := HG.out.top (x / 4) hd4
  dsimp only at htop
  clear own hb3 hA3 hs3 hs4 hOT HA HA0
  obtain ⟨q, hcq, hqk⟩ := lf_top HN.out htop
  have HCQ : Hid (c (x / 4) = q) := hcq
  have hqk' : (q : Int) < (kn : Int) := by omega
  have HZM : Hid (isZero8 (upd2 p q (x % 4) 0 q) (upd2 m q (x % 4) 0 q) ↔ noMay (upd2 m q (x % 4) 0 q) 4) := zero_noMay HG.out hqk
  have HOUT : Hid (∀ c', c' = topsOf c (x / 4) q (upd2 p q (x % 4) 0 q) (upd2 m q (x % 4) 0 q) → chOut ⟨4, c, ⟨kn, len, p, m⟩⟩ (x : Int) (fun _ oy => ¬ oy = 0) (fun _ => 0) 0 ⟨4, c', ⟨kn, fun _ => 4, upd2 p q (x % 4) 0, upd2 m q (x % 4) 0⟩⟩ true) := by
    rintro c' rfl
    refine Or.inl ⟨⟨HG.out, H1.out, by rw [Int.toNat_natCast]; exact HN.out, q, by rw [Int.toNat_natCast]; exact Or.inl hcq⟩, ⟨q, by rw [Int.toNat_natCast]; exact Or.inl hcq, ?_⟩, rfl⟩
    rw [Int.toNat_natCast]
    rfl
  clear hcq htop HN HN0
  go_upto_region 4 with fail
  generalize w3.alloc (.cells #[.slice (some ⟨bt, 0, none⟩) 4 c1, .slice (some ⟨bl, 0, none⟩) kn c2] 29) = W at *
  generalize w3.heap.size = zb at *
  obtain ⟨gb, ea, n1, n2, n3, hlo, hr8, hs2, -⟩ := HOT.out.leaf hqk hr4
  generalize x / 4 = t at *
  generalize x % 4 = j at *
  obtain ⟨x0, x1⟩ := get2 HOT.out.box
  have tp := HOT.out.top.cell hd4
  rw [HCQ.out] at tp
  have ls := HOT.out.ls.row.cell hqk
  dsimp only at ls
  rw [ea] at ls
  have f0 := hr8.frozen (j * 2)
  have f1 := hr8.frozen (j * 2 + 1)
  have l0 : W.cell? ⟨gb, j * 2, none⟩ = some (.int .i64 (p q j)) := by rw [hr8.cell (i := j * 2) (by omega), (uc_at _ _ j).1]
  have l1 : W.cell? ⟨gb, j * 2 + 1, none⟩ = some (.int .i64 (m q j)) := by rw [hr8.cell (i := j * 2 + 1) (by omega), (uc_at _ _ j).2]
  have HOTF : Hid (OT (w.heap.size + 1 + 1) zb ((W.setCell ⟨gb, j * 2, none⟩ (.int .i64 0)).setCell ⟨gb, j * 2 + 1, none⟩ (.int .i64 0)) bt bl c1 c2 c kn (upd2 p q j 0) (upd2 m q j 0) A C Z X) := hs2 0 0
  have ms : Mod (fun x => x = gb) W ((W.setCell ⟨gb, j * 2, none⟩ (.int .i64 0)).setCell ⟨gb, j * 2 + 1, none⟩ (.int .i64 0)) := (Mod.setCell (X := fun x => x = gb) _ (p := ⟨gb, j * 2, none⟩) rfl _).trans (Mod.setCell (X := fun x => x = gb) _ (p := ⟨gb, j * 2 + 1, none⟩) rfl _)
  replace HB : Hid (Blw w ((W.setCell ⟨gb, j * 2, none⟩ (.int .i64 0)).setCell ⟨gb, j * 2 + 1, none⟩ (.int .i64 0))) := Mod.blw HB.out ms (fun i hi => by omega)
  replace HR : Hid (Row ((W.setCell ⟨gb, j * 2, none⟩ (.int .i64 0)).setCell ⟨gb, j * 2 + 1, none⟩ (.int .i64 0)) (w.heap.size + 1) 2 (fun i => if i = 0 then .slice none 0 0 else .slice none 0 0)) := HR.out.mod ms (by omega)
  have EA : Hid (A q = some ⟨gb, 0, none⟩) := ea
  clear hs2 hr8 ms HOT ea hlo
  go_upto_region 7 with fail
  clear x0 x1 tp ls f0 f1 l0 l1
  generalize ((W.setCell ⟨gb, j * 2, none⟩ (.int .i64 0)).setCell ⟨gb, j * 2 + 1, none⟩ (.int .i64 0)) = W2 at *
  generalize upd2 p q j 0 = p' at *
  generalize upd2 m q j 0 = m' at *
  obtain ⟨x0, x1⟩ := get2 HOTF.out.box
  have ls := HOTF.out.ls.row.cell hqk
  dsimp only at ls
  rw [EA.out] at ls
  go_wp2_with fail
  clear x0 x1 ls
  refine (l6Empty_any _ _ 4 (p' q) (m' q) _ _ (by have h1 := (HOTF.out.ls.own q hqk).at; dsimp only at h1; rw [EA.out] at h1; exact h1)).mono ?_
  rintro e W3 ⟨r, rfl, hr3, hb3⟩
  replace HOTF : Hid (OT (w.heap.size + 1 + 1) zb W3 bt bl c1 c2 c kn p' m' A C Z X) := HOTF.out.go hb3
  replace HB : Hid (Blw w W3) := HB.out.trans hb3
  replace HR : Hid (Row W3 (w.heap.size + 1) 2 (fun i => if i = 0 then .slice none 0 0 else .slice none 0 0)) := HR.out.blw hb3
  have HRZ : Hid (r = true ↔ isZero8 (p' q) (m' q)) := hr3.trans HZM.out.symm
  clear hr3 hb3 HZM
  cases r
  · have hc' : c = topsOf c t q (p' q) (m' q) := by rw [topsOf_no (fun g => by have := HRZ.out.2 g; simp at this), upd_self HCQ.out]
    replace HOUT : Hid (chOut ⟨4, c, ⟨kn, len, p, m⟩⟩ (x : Int) (fun _ oy => ¬ oy = 0) (fun _ => 0) 0 ⟨4, c, ⟨kn, fun _ => 4, p', m'⟩⟩ true) := HOUT.out c hc'
    clear hc' HRZ HCQ
    have hzr := HR.out.lt
    have hzb := HOTF.out.nb.2.2
    have FIN : Hid _ := fin_givesT (out := chOut ⟨4, c, ⟨kn, len, p, m⟩⟩ (x : Int) (fun _ oy => ¬ oy = 0) (fun _ => 0) 0) (w := w) (W := W3) (z := w.heap.size + 1) (b := ⟨some ⟨bt, 0, none⟩, some ⟨bl, 0, none⟩, c1, c2⟩) (R := ⟨4, c, ⟨kn, fun _ => 4, p', m'⟩⟩) (by omega) HOUT.out (tot4 (c := c) hk4) HB.out (HOTF.out.own hk4) (fun x hx => ⟨by omega, by omega, hx.2⟩)
    obtain ⟨t0, t1⟩ := get2 HR.out
    obtain ⟨s0, s1⟩ := get2 HOTF.out.box
    have f0 := HR.out.frozen 0
    have f1 := HR.out.frozen 1
    clear HR HB HOTF HOUT hzr hzb
    go_wp2
    exact bodyPost_ret (v := .tuple #[(BV.mk (some ⟨bt, 0, none⟩) (some ⟨bl, 0, none⟩) c1 c2).val ⟨4, c, ⟨kn, fun _ => 4, p', m'⟩⟩, .bool true]) (by simp [results, Try.results148, go_sem, t0, t1]) rfl FIN.out
  · have hc' : upd c t (-1) = topsOf c t q (p' q) (m' q) := by rw [topsOf_yes (HRZ.out.1 (by first | rfl | trivial))]
    replace HOUT : Hid (chOut ⟨4, c, ⟨kn, len, p, m⟩⟩ (x : Int) (fun _ oy => ¬ oy = 0) (fun _ => 0) 0 ⟨4, upd c t (-1), ⟨kn, fun _ => 4, p', m'⟩⟩ true) := HOUT.out _ hc'
    clear hc' HRZ
    obtain ⟨x0, x1⟩ := get2 HOTF.out.box
    have tp := HOTF.out.top.cell hd4
    have f0 := HOTF.out.top.frozen t
    have ms : Mod (fun x => x = bt) W3 (W3.setCell ⟨bt, t, none⟩ (.int .i64 (-1))) := Mod.setCell (X := fun x => x = bt) _ (p := ⟨bt, t, none⟩) rfl _
    have hb := HOTF.out.nb
    replace HOTF : Hid (OT (w.heap.size + 1 + 1) zb (W3.setCell ⟨bt, t, none⟩ (.int .i64 (-1))) bt bl c1 c2 (upd c t (-1)) kn p' m' A C Z X) := HOTF.out.setTop t (-1)
    replace HB : Hid (Blw w (W3.setCell ⟨bt, t, none⟩ (.int .i64 (-1)))) := Mod.blw HB.out ms (fun i hi => by omega)
    replace HR : Hid (Row (W3.setCell ⟨bt, t, none⟩ (.int .i64 (-1))) (w.heap.size + 1) 2 (fun i => if i = 0 then .slice none 0 0 else .slice none 0 0)) := HR.out.mod ms (by omega)
    clear ms hb HCQ
    go_upto_region 9 with fail
    clear x0 x1 tp f0
    generalize W3.setCell ⟨bt, t, none⟩ (.int .i64 (-1)) = W4 at *
    have hzr := HR.out.lt
    have hzb := HOTF.out.nb.2.2
    have FIN : Hid _ := fin_givesT (out := chOut ⟨4, c, ⟨kn, len, p, m⟩⟩ (x : Int) (fun _ oy => ¬ oy = 0) (fun _ => 0) 0) (w := w) (W := W4) (z := w.heap.size + 1) (b := ⟨some ⟨bt, 0, none⟩, some ⟨bl, 0, none⟩, c1, c2⟩) (R := ⟨4, upd c t (-1), ⟨kn, fun _ => 4, p', m'⟩⟩) (by omega) HOUT.out (tot4 (c := c) hk4) HB.out (HOTF.out.own hk4) (fun x hx => ⟨by omega, by omega, hx.2⟩)
    obtain ⟨t0, t1⟩ := get2 HR.out
    obtain ⟨s0, s1⟩ := get2 HOTF.out.box
    have f0 := HR.out.frozen 0
    have f1 := HR.out.frozen 1
    clear HR HB HOTF HOUT hzr hzb
    go_wp2
    exact bodyPost_ret (v := .tuple #[(BV.mk (some ⟨bt, 0, none⟩) (some ⟨bl, 0, none⟩) c1 c2).val ⟨4, upd c t (-1), ⟨kn, fun _ => 4, p', m'⟩⟩, .bool true]) (by simp [results, Try.results148, go_sem, t0, t1]) rfl FIN.out
end Go.Proofs.Ytjplodenflkghaa
