/- Merged by program, in this order: SpecMp, SpecUn, Rec, Short, WkL, Step, ChgS. -/
import Derived.Test.YtbpdopcdhnemfaaJw4
/- MapPage: the model's. -/
namespace Go.Proofs.Ytbpdopcdhnemfaa
open Go.RowKit
set_option linter.unusedSimpArgs false
set_option linter.unusedVariables false
theorem has_step {c : Nat → Int} {k : Nat} (h : ∀ k', k' < k → hasLine 4 c (k' : Int)) (h1 : hasLine 4 c (k : Int)) : ∀ k', k' < k + 1 → hasLine 4 c (k' : Int) := fun k' hk => by
  by_cases e : k' = k
  · subst e; exact h1
  · exact h k' (by omega)
set_option maxRecDepth 10000 in
set_option maxHeartbeats 6400000 in
theorem specMap_any (b : BV) (B : BD) (a g y : Int) (Y : Nat → Prop) (w : World) (hn : B.n ≤ 1048576) (h : BookAt Y w b B) :
    Calls Try.prog 154 #[b.val B, .int .i64 a, .int .i64 g, .int .i64 y] w (GivesB (chOut B a (fun _ oy => oy = 0 ∧ pgOK g ∧ mayOK y) (fun _ => g) y) w) := by
  have hA1 : Blw w (w.alloc (.cells #[.slice b.a1 B.n b.c1, .slice b.a2 B.D.n b.c2] 29)) := (Blw.refl _).alloc _
  have hA2 : Blw (w.alloc (.cells #[.slice b.a1 B.n b.c1, .slice b.a2 B.D.n b.c2] 29)) ((w.alloc (.cells #[.slice b.a1 B.n b.c1, .slice b.a2 B.D.n b.c2] 29)).alloc (.cells #[.slice none 0 0, .slice none 0 0] 29)) := (Blw.refl _).alloc _
  have HB : Hid (Blw w ((w.alloc (.cells #[.slice b.a1 B.n b.c1, .slice b.a2 B.D.n b.c2] 29)).alloc (.cells #[.slice none 0 0, .slice none 0 0] 29))) := hA1.trans hA2
  have rR := box2 (w.alloc (.cells #[.slice b.a1 B.n b.c1, .slice b.a2 B.D.n b.c2] 29)) (.slice none 0 0) (.slice none 0 0) 29
  rw [World.size_alloc] at rR
  have HR : Hid (Row ((w.alloc (.cells #[.slice b.a1 B.n b.c1, .slice b.a2 B.D.n b.c2] 29)).alloc (.cells #[.slice none 0 0, .slice none 0 0] 29)) (w.heap.size + 1) 2 (fun i => if i = 0 then .slice none 0 0 else .slice none 0 0)) := rR
  have HA : Hid (BookAt Y ((w.alloc (.cells #[.slice b.a1 B.n b.c1, .slice b.a2 B.D.n b.c2] 29)).alloc (.cells #[.slice none 0 0, .slice none 0 0] 29)) b B) := h.blw (hA1.trans hA2)
  have HA0 : Hid (Row ((w.alloc (.cells #[.slice b.a1 B.n b.c1, .slice b.a2 B.D.n b.c2] 29)).alloc (.cells #[.slice none 0 0, .slice none 0 0] 29)) w.heap.size 2 (fun i => if i = 0 then .slice b.a1 B.n b.c1 else .slice b.a2 B.D.n b.c2)) := (box2 w _ _ 29).blw hA2
  have HSZ : Hid (w.heap.size + 1 + 1 = ((w.alloc (.cells #[.slice b.a1 B.n b.c1, .slice b.a2 B.D.n b.c2] 29)).alloc (.cells #[.slice none 0 0, .slice none 0 0] 29)).heap.size) := by show _ = _; simp
  clear hA1 hA2 rR h
  go_enter Try.func154, Try.ntmps154
  obtain ⟨p0, p1⟩ := get2 HA0.out
  go_wp2_with fail
  clear p0 p1
  generalize ((w.alloc (.cells #[.slice b.a1 B.n b.c1, .slice b.a2 B.D.n b.c2] 29)).alloc (.cells #[.slice none 0 0, .slice none 0 0] 29)) = w0 at *
  refine (specGood_any b B Y _ hn HA.out).mono ?_
  rintro e w1 ⟨r, rfl, hr, hb1⟩
  have HT : Hid (r = true ↔ B.Good) := hr
  replace HSZ : Hid (w.heap.size + 1 + 1 ≤ w1.heap.size) := by have := HSZ.out; have := hb1.size; show _ ≤ _; omega
  replace HB : Hid (Blw w w1) := HB.out.trans hb1
  replace HR : Hid (Row w1 (w.heap.size + 1) 2 (fun i => if i = 0 then .slice none 0 0 else .slice none 0 0)) := HR.out.blw hb1
  replace HA0 : Hid (Row w1 w.heap.size 2 (fun i => if i = 0 then .slice b.a1 B.n b.c1 else .slice b.a2 B.D.n b.c2)) := HA0.out.blw hb1
  replace HA : Hid (BookAt Y w1 b B) := HA.out.blw hb1
  clear hr hb1
  cases r
  · have HN : Hid (¬ B.Good) := fun g => by have := HT.out.2 g; simp at this
    clear HT
    obtain ⟨t0, t1⟩ := get2 HR.out
    have f0 := HR.out.frozen 0
    have f1 := HR.out.frozen 1
    clear HR HA0
    go_wp2
    exact bodyPost_ret (v := .tuple #[BV.zero.val BD.zero, .bool false]) (by simp [results, Try.results154, go_sem, t0, t1]) rfl (zero_givesT (z := w.heap.size + 1) (by omega) (Or.inr ⟨fun q => HN.out q.1, rfl, rfl⟩) HB.out)
  have HG : Hid (B.Good) := HT.out.1 (by first | rfl | trivial)
  clear HT
  go_wp2_with fail
  refine (l6At_any a _).mono ?_
  rintro e w1 ⟨r, rfl, hr, rfl⟩
  have HT : Hid (r = true ↔ pgOK a) := hr
  clear hr
  cases r
  · have HN : Hid (¬ pgOK a) := fun g => by have := HT.out.2 g; simp at this
    clear HT
    obtain ⟨t0, t1⟩ := get2 HR.out
    have f0 := HR.out.frozen 0
    have f1 := HR.out.frozen 1
    clear HR HA0
    go_wp2
    exact bodyPost_ret (v := .tuple #[BV.zero.val BD.zero, .bool false]) (by simp [results, Try.results154, go_sem, t0, t1]) rfl (zero_givesT (z := w.heap.size + 1) (by omega) (Or.inr ⟨fun q => HN.out q.2.1, rfl, rfl⟩) HB.out)
  have H1 : Hid (pgOK a) := HT.out.1 (by first | rfl | trivial)
  clear HT
  go_wp2_with fail
  refine (l1In_any g 0 15 _).mono ?_
  rintro e w1 ⟨r, rfl, hr, rfl⟩
  have HT : Hid (r = true ↔ (0 ≤ g ∧ g ≤ 15)) := hr
  clear hr
  cases r
  · have HN : Hid (¬ (0 ≤ g ∧ g ≤ 15)) := fun g => by have := HT.out.2 g; simp at this
    clear HT
    obtain ⟨t0, t1⟩ := get2 HR.out
    have f0 := HR.out.frozen 0
    have f1 := HR.out.frozen 1
    clear HR HA0
    go_wp2
    exact bodyPost_ret (v := .tuple #[BV.zero.val BD.zero, .bool false]) (by simp [results, Try.results154, go_sem, t0, t1]) rfl (zero_givesT (z := w.heap.size + 1) (by omega) (Or.inr ⟨fun q => HN.out q.2.2.1.2.1, rfl, rfl⟩) HB.out)
  have H2 : Hid (pgOK g) := HT.out.1 (by first | rfl | trivial)
  clear HT
  go_wp2_with fail
  refine (l1In_any y 1 3 _).mono ?_
  rintro e w1 ⟨r, rfl, hr, rfl⟩
  have HT : Hid (r = true ↔ (1 ≤ y ∧ y ≤ 3)) := hr
  clear hr
  cases r
  · have HN : Hid (¬ (1 ≤ y ∧ y ≤ 3)) := fun g => by have := HT.out.2 g; simp at this
    clear HT
    obtain ⟨t0, t1⟩ := get2 HR.out
    have f0 := HR.out.frozen 0
    have f1 := HR.out.frozen 1
    clear HR HA0
    go_wp2
    exact bodyPost_ret (v := .tuple #[BV.zero.val BD.zero, .bool false]) (by simp [results, Try.results154, go_sem, t0, t1]) rfl (zero_givesT (z := w.heap.size + 1) (by omega) (Or.inr ⟨fun q => HN.out q.2.2.1.2.2, rfl, rfl⟩) HB.out)
  have H3 : Hid (mayOK y) := HT.out.1 (by first | rfl | trivial)
  clear HT
  obtain ⟨n, c, ⟨kn, len, p, m⟩⟩ := B
  obtain ⟨a1, a2, q1, q2⟩ := b
  have hn4 : n = 4 := HG.out.n
  subst hn4
  have hk4 : kn ≤ 4 := HG.out.k.2
  have hk1 : 0 < kn := HG.out.k.1
  simp only [BV.val] at *
  obtain ⟨x, hx, hx16⟩ : ∃ x : Nat, a = x ∧ x < 16 := ⟨a.toNat, by have := H1.out; unfold pgOK at this; omega, by have := H1.out; unfold pgOK at this; omega⟩
  subst hx
  have HN0 : Hid (0 ≤ lfP c m x) := lf_nonneg HG.out hx16
  obtain ⟨p0, p1⟩ := get2 HA0.out
  have hfm := fieldMay (lfP c p x) (lfP c m x)
  go_wp2_with fail
  clear p0 p1
  refine (l6Find_any ⟨a1, a2, q1, q2⟩ c kn len p m x Y _ HG.out hx16 HA.out).mono ?_
  rintro e w2 ⟨rfl, hb2⟩
  replace HB : Hid (Blw w w2) := HB.out.trans hb2
  replace HSZ : Hid (w.heap.size + 1 + 1 ≤ w2.heap.size) := by have := HSZ.out; have := hb2.size; show _ ≤ _; omega
  replace HR : Hid (Row w2 (w.heap.size + 1) 2 (fun i => if i = 0 then .slice none 0 0 else .slice none 0 0)) := HR.out.blw hb2
  replace HA0 : Hid (Row w2 w.heap.size 2 (fun i => if i = 0 then .slice a1 4 q1 else .slice a2 kn q2)) := HA0.out.blw hb2
  replace HA : Hid (BookAt Y w2 ⟨a1, a2, q1, q2⟩ ⟨4, c, ⟨kn, len, p, m⟩⟩) := HA.out.blw hb2
  clear hb2
  by_cases h0 : 0 < lfP c m x
  · have HN : Hid (0 < lfP c m x) := h0
    have d1 : decide (lfP c m x > 0) = true := by simp; omega
    clear h0
    obtain ⟨t0, t1⟩ := get2 HR.out
    have f0 := HR.out.frozen 0
    have f1 := HR.out.frozen 1
    clear HR HA0
    go_wp2
    exact bodyPost_ret (v := .tuple #[BV.zero.val BD.zero, .bool false]) (by simp [results, Try.results154, go_sem, t0, t1]) rfl (zero_givesT (z := w.heap.size + 1) (by omega) (Or.inr ⟨fun q => by have h1 := q.2.2.1.1; rw [Int.toNat_natCast] at h1; have h2 := HN.out; have h3 : lfP c m x = 0 := h1; omega, rfl, rfl⟩) HB.out)
  have HN : Hid (lfP c m x = 0) := by have := HN0.out; show _ = _; omega
  have d1 : decide (lfP c m x > 0) = false := by simp; omega
  clear h0
  obtain ⟨p0, p1⟩ := get2 HA0.out
  go_wp2_with fail
  clear p0 p1 hfm
  refine (l6Own_any ⟨a1, a2, q1, q2⟩ c kn len p m Y _ hk4 (fun i hi => (HG.out.leaf i hi).1) HA.out).mono ?_
  rintro e w3 ⟨b3, rfl, own, hb3⟩
  have hs3 := HSZ.out
  have hs4 := hb3.size
  obtain ⟨bt, bl, c1, c2, A, C, Z, X, rfl, hOT⟩ := OT.make (lo := w.heap.size + 1 + 1) hk1 (own.mono (fun x hx => ⟨by omega, hx.2⟩)) (by omega)
  have hA3 : Blw w3 (w3.alloc (.cells #[.slice (some ⟨bt, 0, none⟩) 4 c1, .slice (some ⟨bl, 0, none⟩) kn c2] 29)) := (Blw.refl _).alloc _
  have HOT : Hid (OT (w.heap.size + 1 + 1) w3.heap.size (w3.alloc (.cells #[.slice (some ⟨bt, 0, none⟩) 4 c1, .slice (some ⟨bl, 0, none⟩) kn c2] 29)) bt bl c1 c2 c kn p m A C Z X) := hOT
  replace HB : Hid (Blw w (w3.alloc (.cells #[.slice (some ⟨bt, 0, none⟩) 4 c1, .slice (some ⟨bl, 0, none⟩) kn c2] 29))) := HB.out.trans (hb3.trans hA3)
  replace HR : Hid (Row (w3.alloc (.cells #[.slice (some ⟨bt, 0, none⟩) 4 c1, .slice (some ⟨bl, 0, none⟩) kn c2] 29)) (w.heap.size + 1) 2 (fun i => if i = 0 then .slice none 0 0 else .slice none 0 0)) := HR.out.blw (hb3.trans hA3)
  have hd : Int.tdiv (x : Int) 4 = ((x / 4 : Nat) : Int) := by rw [Int.tdiv_eq_ediv_of_nonneg (by omega)]; rfl
  have hr : Int.tmod (x : Int) 4 = ((x % 4 : Nat) : Int) := by rw [Int.tmod_eq_emod_of_nonneg (by omega)]; rfl
  have hd4 : x / 4 < 4 := by omega
  have hr4 : x % 4 < 4 := by omega
  have hd4' : ((x / 4 : Nat) : Int) < 4 := by omega
  have hr4' : ((x % 4 : Nat) : Int) < 4 := by omega
  have htop := HG.out.top (x / 4) hd4
  dsimp only at htop
  clear own hb3 hA3 hs3 hs4 hOT HA HA0
  have HOUT : Hid (∀ q, goes c kn (x / 4) q → chOut ⟨4, c, ⟨kn, len, p, m⟩⟩ (x : Int) (fun _ oy => oy = 0 ∧ pgOK g ∧ mayOK y) (fun _ => g) y ⟨4, upd c (x / 4) q, ⟨kn, fun _ => 4, upd2 p q (x % 4) g, upd2 m q (x % 4) y⟩⟩ true) := by
    intro q hq
    refine Or.inl ⟨⟨HG.out, H1.out, by rw [Int.toNat_natCast]; exact ⟨HN.out, H2.out, H3.out⟩, q, by rw [Int.toNat_natCast]; exact hq⟩, ⟨q, by rw [Int.toNat_natCast]; exact hq, ?_⟩, rfl⟩
    rw [Int.toNat_natCast]
    unfold chB
    dsimp only
    rw [topsOf_no (nz8 hr4 H3.out (upd2_at _ _ _ _))]
  have HNO : Hid (¬ (∃ q, goes c kn (x / 4) q) → ¬ chOK ⟨4, c, ⟨kn, len, p, m⟩⟩ (x : Int) (fun _ oy => oy = 0 ∧ pgOK g ∧ mayOK y)) := fun hno q => hno (by have h1 := q.2.2.2; rw [Int.toNat_natCast] at h1; exact h1)
  clear HN HN0 H2
  go_upto_region 4 with fail
  generalize w3.alloc (.cells #[.slice (some ⟨bt, 0, none⟩) 4 c1, .slice (some ⟨bl, 0, none⟩) kn c2] 29) = W at *
  generalize w3.heap.size = zb at *
  generalize x / 4 = t at *
  generalize x % 4 = j at *
  go_wp2_with fail
  go_loopw [12] (fun i wr => ∃ k : Nat, k ≤ kn ∧ i = .int .i64 k ∧ ∃ c', OT (w.heap.size + 1 + 1) zb wr bt bl c1 c2 c' kn p m A C Z X ∧ ((c' = c ∧ c t = -1 ∧ ∀ k', k' < k → hasLine 4 c (k' : Int)) ∨ ∃ q : Nat, q < kn ∧ goes c kn t q ∧ c' = upd c t q) ∧ Blw w wr ∧ Row wr (w.heap.size + 1) 2 (fun i => if i = 0 then .slice none 0 0 else .slice none 0 0)) (fun i _ => kn - (intOf i).toNat)
  case atStart =>
    refine ⟨0, Nat.zero_le _, rfl, c, HOT.out, ?_, HB.out, HR.out⟩
    by_cases h0 : 0 ≤ c t
    · obtain ⟨q, hq⟩ : ∃ q : Nat, c t = q := ⟨(c t).toNat, by omega⟩
      exact Or.inr ⟨q, by omega, Or.inl hq, (upd_self hq).symm⟩
    · exact Or.inl ⟨rfl, by omega, fun k' hk' => absurd hk' (Nat.not_lt_zero _)⟩
  case round =>
    clear HOT HB HR
    obtain ⟨k, hk, rfl, c', hot, hst, hb, hrr⟩ := hrel
    have HOT : Hid (OT (w.heap.size + 1 + 1) zb wr bt bl c1 c2 c' kn p m A C Z X) := hot
    have HB : Hid (Blw w wr) := hb
    have HR : Hid (Row wr (w.heap.size + 1) 2 (fun i => if i = 0 then .slice none 0 0 else .slice none 0 0)) := hrr
    clear hot hb hrr
    have x0 := (get2 HOT.out.box).1
    have x1 := (get2 HOT.out.box).2
    have tp := HOT.out.top.cell hd4
    rcases hst with ⟨rfl, hc, hall⟩ | ⟨q, hqk, hgo, rfl⟩
    · have HALL : Hid (∀ k', k' < k → hasLine 4 c' (k' : Int)) := hall
      have HC : Hid (c' t = -1) := hc
      rw [hc] at tp
      clear hc hall
      by_cases hlt : k < kn
      · have hlt' : (k : Int) < (kn : Int) := by omega
        go_wp2_with fail
        refine (l1Has_any (some ⟨bt, 0, none⟩) c1 4 c' _ _ (k : Int) HOT.out.topAt).mono ?_
        rintro e wr ⟨r, rfl, hr5, rfl⟩
        have HT : Hid (r = true ↔ hasLine 4 c' (k : Int)) := hr5
        clear hr5
        cases r
        · have HGO : Hid (goes c' kn t k) := Or.inr ⟨HC.out, hlt, fun g => by have := HT.out.2 g; simp at this, HALL.out⟩
          have f0 := HOT.out.top.frozen t
          have ms : Mod (fun x => x = bt) wr (wr.setCell ⟨bt, t, none⟩ (.int .i64 k)) := Mod.setCell (X := fun x => x = bt) _ (p := ⟨bt, t, none⟩) rfl _
          have hb := HOT.out.nb
          replace HOT : Hid (OT (w.heap.size + 1 + 1) zb (wr.setCell ⟨bt, t, none⟩ (.int .i64 k)) bt bl c1 c2 (upd c' t k) kn p m A C Z X) := HOT.out.setTop t k
          replace HB : Hid (Blw w (wr.setCell ⟨bt, t, none⟩ (.int .i64 k))) := Mod.blw HB.out ms (fun i hi => by omega)
          replace HR : Hid (Row (wr.setCell ⟨bt, t, none⟩ (.int .i64 k)) (w.heap.size + 1) 2 (fun i => if i = 0 then .slice none 0 0 else .slice none 0 0)) := HR.out.mod ms (by omega)
          clear ms hb HT HALL HC
          go_wp2
          go_roundw
          case rel => exact ⟨k + 1, by omega, by go_num, upd c' t k, HOT.out, Or.inr ⟨k, hlt, HGO.out, rfl⟩, HB.out, HR.out⟩
          case measure => simp [intOf]; omega
        · have HN : Hid (∀ k', k' < k + 1 → hasLine 4 c' (k' : Int)) := has_step HALL.out (HT.out.1 (by first | rfl | trivial))
          clear HT HALL
          go_wp2
          go_roundw
          case rel => exact ⟨k + 1, by omega, by go_num, c', HOT.out, Or.inl ⟨rfl, HC.out, HN.out⟩, HB.out, HR.out⟩
          case measure => simp [intOf]; omega
      · obtain rfl : k = kn := by omega
        have HNN : Hid (¬ chOK ⟨4, c', ⟨k, len, p, m⟩⟩ (x : Int) (fun _ oy => oy = 0 ∧ pgOK g ∧ mayOK y)) := HNO.out (show ¬ ∃ q, goes c' k t q from fun ⟨q, g⟩ => by
          rcases g with g | ⟨-, g1, g2, -⟩
          · have := HC.out; omega
          · exact g2 (HALL.out q g1))
        obtain ⟨t0, t1⟩ := get2 HR.out
        have f0 := HR.out.frozen 0
        have f1 := HR.out.frozen 1
        clear HR HALL HC HOT HOUT HNO
        go_wp2
        exact bodyPost_ret (v := .tuple #[BV.zero.val BD.zero, .bool false]) (by simp [results, Try.results154, go_sem, t0, t1]) rfl (zero_givesT (z := w.heap.size + 1) (by omega) (Or.inr ⟨HNN.out, rfl, rfl⟩) HB.out)
    · rw [upd_at] at tp
      have hqk' : (q : Int) < (kn : Int) := by omega
      have HGO : Hid (goes c kn t q) := hgo
      replace HOUT : Hid (chOut ⟨4, c, ⟨kn, len, p, m⟩⟩ (x : Int) (fun _ oy => oy = 0 ∧ pgOK g ∧ mayOK y) (fun _ => g) y ⟨4, upd c t q, ⟨kn, fun _ => 4, upd2 p q j g, upd2 m q j y⟩⟩ true) := HOUT.out q HGO.out
      clear hgo HNO
      have hk' : (k : Int) ≤ (kn : Int) := by omega
      by_cases hlt : k < kn
      · have hlt' : (k : Int) < (kn : Int) := by omega
        go_upto_region 12 with fail
        clear x0 x1 tp
        generalize wr = W at *
        replace HOT : Hid (OT (w.heap.size + 1 + 1) zb W.drew bt bl c1 c2 (upd c t q) kn p m A C Z X) := HOT.out.go (Blw.refl _).drew
        replace HB : Hid (Blw w W.drew) := HB.out.drew
        replace HR : Hid (Row W.drew (w.heap.size + 1) 2 (fun i => if i = 0 then .slice none 0 0 else .slice none 0 0)) := HR.out.blw (Blw.refl _).drew
        obtain ⟨gb, ea, n1, n2, n3, hlo, hr8, hs2, -⟩ := HOT.out.leaf hqk hr4
        have x0 := (get2 HOT.out.box).1
        have x1 := (get2 HOT.out.box).2
        have tp := HOT.out.top.cell hd4
        rw [upd_at] at tp
        have ls := HOT.out.ls.row.cell hqk
        dsimp only at ls
        rw [ea] at ls
        have f0 := hr8.frozen (j * 2)
        have f1 := hr8.frozen (j * 2 + 1)
        have l0 : W.drew.cell? ⟨gb, j * 2, none⟩ = some (.int .i64 (p q j)) := by rw [hr8.cell (i := j * 2) (by omega), (uc_at _ _ j).1]
        have l1 : W.drew.cell? ⟨gb, j * 2 + 1, none⟩ = some (.int .i64 (m q j)) := by rw [hr8.cell (i := j * 2 + 1) (by omega), (uc_at _ _ j).2]
        have HOTF : Hid (OT (w.heap.size + 1 + 1) zb ((W.drew.setCell ⟨gb, j * 2, none⟩ (.int .i64 g)).setCell ⟨gb, j * 2 + 1, none⟩ (.int .i64 y)) bt bl c1 c2 (upd c t q) kn (upd2 p q j g) (upd2 m q j y) A C Z X) := hs2 g y
        have ms : Mod (fun x => x = gb) W.drew ((W.drew.setCell ⟨gb, j * 2, none⟩ (.int .i64 g)).setCell ⟨gb, j * 2 + 1, none⟩ (.int .i64 y)) := (Mod.setCell (X := fun x => x = gb) _ (p := ⟨gb, j * 2, none⟩) rfl _).trans (Mod.setCell (X := fun x => x = gb) _ (p := ⟨gb, j * 2 + 1, none⟩) rfl _)
        have HB' : Hid (Blw w ((W.drew.setCell ⟨gb, j * 2, none⟩ (.int .i64 g)).setCell ⟨gb, j * 2 + 1, none⟩ (.int .i64 y))) := Mod.blw HB.out ms (fun i hi => by omega)
        have HR' : Hid (Row ((W.drew.setCell ⟨gb, j * 2, none⟩ (.int .i64 g)).setCell ⟨gb, j * 2 + 1, none⟩ (.int .i64 y)) (w.heap.size + 1) 2 (fun i => if i = 0 then .slice none 0 0 else .slice none 0 0)) := HR.out.mod ms (by omega)
        clear hs2 hr8 ms HOT HB HR ea hlo
        have hwt : IntKind.i64.wrap ((t : Nat) : Int) = t := by rw [IntKind.wrap_i64]; omega
        have hwj : IntKind.i64.wrap ((j : Nat) : Int) = j := by rw [IntKind.wrap_i64]; omega
        have hS0 := And.intro x0 (And.intro x1 (And.intro tp ls))
        refine wp_region_noPanic ?_
        refine wp_region_held_drew (S := fun (w' : World) => w'.cell? ⟨zb, 0, none⟩ = some (.slice (some ⟨bt, 0, none⟩) 4 c1) ∧ w'.cell? ⟨zb, 1, none⟩ = some (.slice (some ⟨bl, 0, none⟩) kn c2) ∧ w'.cell? ⟨bt, t, none⟩ = some (.int .i64 q) ∧ w'.cell? ⟨bl, q, none⟩ = some (.slice (some ⟨gb, 0, none⟩) 4 (C q))) (by kernel_rfl) hS0 (fun hB => ?_)
        clear hB
        generalize W.drew = wd at *
        refine wpAnyH_take (i := 0) (oi := { dst := some 75, op := Op.fieldAddr 29 (Operand.tmp 10) 1, type := 0, pos := _, after := #[], guard := none }) (v := (.pointer (some ⟨zb, 1, none⟩))) rfl (by kernel_rfl) (by kernel_rfl) (by kernel_rfl) (fun _ _ _ h => h) (Or.inl ⟨by rfl, fun w' hS => by (try dsimp only at hS); go_simp⟩) hS0 ?_
        simp only [Act.put, List.setIfInBounds_toArray, List.set_cons_zero, List.set_cons_succ]
        refine wpAnyH_take (i := 2) (oi := { dst := some 77, op := Op.fieldAddr 29 (Operand.tmp 10) 0, type := 0, pos := _, after := #[], guard := none }) (v := (.pointer (some ⟨zb, 0, none⟩))) rfl (by kernel_rfl) (by kernel_rfl) (by kernel_rfl) (fun _ _ _ h => h) (Or.inl ⟨by rfl, fun w' hS => by (try dsimp only at hS); go_simp⟩) hS0 ?_
        simp only [Act.put, List.setIfInBounds_toArray, List.set_cons_zero, List.set_cons_succ]
        refine wpAnyH_take (i := 4) (oi := { dst := some 79, op := Op.move (Operand.tmp 11), type := 3, pos := _, after := #[], guard := none }) (v := (.int .i64 t)) rfl (by kernel_rfl) (by kernel_rfl) (by kernel_rfl) (fun _ _ _ h => h) (Or.inl ⟨by rfl, fun w' hS => by (try dsimp only at hS); go_simp⟩) hS0 ?_
        simp only [Act.put, List.setIfInBounds_toArray, List.set_cons_zero, List.set_cons_succ]
        refine wpAnyH_take (i := 9) (oi := { dst := some 84, op := Op.move (Operand.tmp 1), type := 3, pos := _, after := #[], guard := none }) (v := (.int .i64 x)) rfl (by kernel_rfl) (by kernel_rfl) (by kernel_rfl) (fun _ _ _ h => h) (Or.inl ⟨by rfl, fun w' hS => by (try dsimp only at hS); go_simp⟩) hS0 ?_
        simp only [Act.put, List.setIfInBounds_toArray, List.set_cons_zero, List.set_cons_succ]
        refine wpAnyH_take (i := 11) (oi := { dst := some 86, op := Op.move (Operand.tmp 2), type := 3, pos := _, after := #[], guard := none }) (v := (.int .i64 g)) rfl (by kernel_rfl) (by kernel_rfl) (by kernel_rfl) (fun _ _ _ h => h) (Or.inl ⟨by rfl, fun w' hS => by (try dsimp only at hS); go_simp⟩) hS0 ?_
        simp only [Act.put, List.setIfInBounds_toArray, List.set_cons_zero, List.set_cons_succ]
        refine wpAnyH_take (i := 12) (oi := { dst := some 87, op := Op.move (Operand.tmp 3), type := 3, pos := _, after := #[], guard := none }) (v := (.int .i64 y)) rfl (by kernel_rfl) (by kernel_rfl) (by kernel_rfl) (fun _ _ _ h => h) (Or.inl ⟨by rfl, fun w' hS => by (try dsimp only at hS); go_simp⟩) hS0 ?_
        simp only [Act.put, List.setIfInBounds_toArray, List.set_cons_zero, List.set_cons_succ]
        refine wpAnyH_take (i := 1) (oi := { dst := some 76, op := Op.load 27 (Operand.tmp 75), type := 27, pos := _, after := #[{ on := 0, ground := Ground.data }], guard := none }) (v := (.slice (some ⟨bl, 0, none⟩) kn c2)) rfl (by kernel_rfl) (by kernel_rfl) (by kernel_rfl) (fun _ _ _ h => h) (Or.inl ⟨by rfl, fun w' hS => by (try dsimp only at hS); go_simp⟩) hS0 ?_
        simp only [Act.put, List.setIfInBounds_toArray, List.set_cons_zero, List.set_cons_succ]
        refine wpAnyH_take (i := 3) (oi := { dst := some 78, op := Op.load 26 (Operand.tmp 77), type := 26, pos := _, after := #[{ on := 2, ground := Ground.data }], guard := none }) (v := (.slice (some ⟨bt, 0, none⟩) 4 c1)) rfl (by kernel_rfl) (by kernel_rfl) (by kernel_rfl) (fun _ _ _ h => h) (Or.inl ⟨by rfl, fun w' hS => by (try dsimp only at hS); go_simp⟩) hS0 ?_
        simp only [Act.put, List.setIfInBounds_toArray, List.set_cons_zero, List.set_cons_succ]
        refine wpAnyH_take (i := 10) (oi := { dst := some 85, op := Op.binOp BinOp.rem 3 (Operand.tmp 84) (Operand.const (Value.int IntKind.i64 4)) 3, type := 3, pos := _, after := #[{ on := 9, ground := Ground.data }], guard := none }) (v := (.int .i64 j)) rfl (by kernel_rfl) (by kernel_rfl) (by kernel_rfl) (fun _ _ _ h => h) (Or.inl ⟨by rfl, fun w' hS => by (try dsimp only at hS); go_simp⟩) hS0 ?_
        simp only [Act.put, List.setIfInBounds_toArray, List.set_cons_zero, List.set_cons_succ]
        refine wpAnyH_take (i := 13) (oi := { dst := some 88, op := Op.build 189 #[(0, Operand.tmp 86), (1, Operand.tmp 87)], type := 189, pos := _, after := #[{ on := 11, ground := Ground.data }, { on := 12, ground := Ground.data }], guard := none }) (v := (.agg #[.int .i64 g, .int .i64 y])) rfl (by kernel_rfl) (by kernel_rfl) (by kernel_rfl) (fun _ _ _ h => h) (Or.inl ⟨by rfl, fun w' hS => by (try dsimp only at hS); go_simp⟩) hS0 ?_
        simp only [Act.put, List.setIfInBounds_toArray, List.set_cons_zero, List.set_cons_succ]
        refine wpAnyH_take (i := 5) (oi := { dst := some 80, op := Op.indexAddr 26 (Operand.tmp 78) (Operand.tmp 79), type := 0, pos := _, after := #[{ on := 3, ground := Ground.data }, { on := 4, ground := Ground.data }], guard := none }) (v := (.pointer (some ⟨bt, t, none⟩))) rfl (by kernel_rfl) (by kernel_rfl) (by kernel_rfl) (fun _ _ _ h => h) (Or.inl ⟨by rfl, fun w' hS => by (try dsimp only at hS); go_simp⟩) hS0 ?_
        simp only [Act.put, List.setIfInBounds_toArray, List.set_cons_zero, List.set_cons_succ]
        refine wpAnyH_take (i := 6) (oi := { dst := some 81, op := Op.load 3 (Operand.tmp 80), type := 3, pos := _, after := #[{ on := 5, ground := Ground.data }], guard := none }) (v := (.int .i64 q)) rfl (by kernel_rfl) (by kernel_rfl) (by kernel_rfl) (fun _ _ _ h => h) (Or.inl ⟨by rfl, fun w' hS => by (try dsimp only at hS); go_simp⟩) hS0 ?_
        simp only [Act.put, List.setIfInBounds_toArray, List.set_cons_zero, List.set_cons_succ]
        refine wpAnyH_take (i := 7) (oi := { dst := some 82, op := Op.indexAddr 27 (Operand.tmp 76) (Operand.tmp 81), type := 0, pos := _, after := #[{ on := 1, ground := Ground.data }, { on := 6, ground := Ground.data }], guard := none }) (v := (.pointer (some ⟨bl, q, none⟩))) rfl (by kernel_rfl) (by kernel_rfl) (by kernel_rfl) (fun _ _ _ h => h) (Or.inl ⟨by rfl, fun w' hS => by (try dsimp only at hS); go_simp⟩) hS0 ?_
        simp only [Act.put, List.setIfInBounds_toArray, List.set_cons_zero, List.set_cons_succ]
        refine wpAnyH_take (i := 8) (oi := { dst := some 83, op := Op.load 186 (Operand.tmp 82), type := 186, pos := _, after := #[{ on := 7, ground := Ground.data }], guard := none }) (v := (.slice (some ⟨gb, 0, none⟩) 4 (C q))) rfl (by kernel_rfl) (by kernel_rfl) (by kernel_rfl) (fun _ _ _ h => h) (Or.inl ⟨by rfl, fun w' hS => by (try dsimp only at hS); go_simp⟩) hS0 ?_
        simp only [Act.put, List.setIfInBounds_toArray, List.set_cons_zero, List.set_cons_succ]
        refine wpAnyH_take (i := 14) (oi := { dst := some 89, op := Op.indexAddr 186 (Operand.tmp 83) (Operand.tmp 85), type := 0, pos := _, after := #[{ on := 8, ground := Ground.data }, { on := 10, ground := Ground.data }, { on := 0, ground := Ground.phase }, { on := 1, ground := Ground.phase }, { on := 2, ground := Ground.phase }, { on := 3, ground := Ground.phase }, { on := 4, ground := Ground.phase }, { on := 5, ground := Ground.phase }, { on := 6, ground := Ground.phase }, { on := 7, ground := Ground.phase }, { on := 8, ground := Ground.phase }, { on := 9, ground := Ground.phase }, { on := 10, ground := Ground.phase }, { on := 11, ground := Ground.phase }, { on := 12, ground := Ground.phase }, { on := 13, ground := Ground.phase }], guard := none }) (v := (.pointer (some ⟨gb, j * 2, none⟩))) rfl (by kernel_rfl) (by kernel_rfl) (by kernel_rfl) (fun _ _ _ h => h) (Or.inl ⟨by rfl, fun w' hS => by (try dsimp only at hS); go_simp⟩) hS0 ?_
        simp only [Act.put, List.setIfInBounds_toArray, List.set_cons_zero, List.set_cons_succ]
        refine wpAnyH_ready (rs := [15]) (by kernel_rfl) (by simp) ?_
        refine AllReadyH.cons (o := { dst := none, op := Op.store 189 (Operand.tmp 89) (Operand.tmp 88), type := 0, pos := _, after := #[{ on := 14, ground := Ground.data }, { on := 13, ground := Ground.data }, { on := 0, ground := Ground.phase }, { on := 1, ground := Ground.phase }, { on := 2, ground := Ground.phase }, { on := 3, ground := Ground.phase }, { on := 4, ground := Ground.phase }, { on := 5, ground := Ground.phase }, { on := 6, ground := Ground.phase }, { on := 7, ground := Ground.phase }, { on := 8, ground := Ground.phase }, { on := 9, ground := Ground.phase }, { on := 10, ground := Ground.phase }, { on := 11, ground := Ground.phase }, { on := 12, ground := Ground.phase }, { on := 13, ground := Ground.phase }], guard := none }) rfl (fun K hK => ?_) AllReadyH.nil
        go_simp
        have mS : Mod (fun x => x = gb) wd ((wd.setCell ⟨gb, j * 2, none⟩ (.int .i64 g)).setCell ⟨gb, j * 2 + 1, none⟩ (.int .i64 y)) := (Mod.setCell (X := fun x => x = gb) _ (p := ⟨gb, j * 2, none⟩) rfl _).trans (Mod.setCell (X := fun x => x = gb) _ (p := ⟨gb, j * 2 + 1, none⟩) rfl _)
        have hSt := And.intro (mS.cell x0 (fun e => n1 e.symm)) (And.intro (mS.cell x1 (fun e => n1 e.symm)) (And.intro (mS.cell tp (fun e => n2 e.symm)) (mS.cell ls (fun e => n3 e.symm))))
        clear mS
        refine hK.out _ _ hSt (fun hB => ?_)
        clear hK K hB
        try simp only [Act.put, List.setIfInBounds_toArray, List.set_cons_zero, List.set_cons_succ]
        refine wpAnyH_done (by kernel_rfl) ?_ _
        refine NoPanic.normal ?_
        clear hSt hS0 x0 x1 tp ls f0 f1 l0 l1
        replace HB : Hid (Blw w ((wd.setCell ⟨gb, j * 2, none⟩ (.int .i64 g)).setCell ⟨gb, j * 2 + 1, none⟩ (.int .i64 y))) := HB'.out
        replace HR : Hid (Row ((wd.setCell ⟨gb, j * 2, none⟩ (.int .i64 g)).setCell ⟨gb, j * 2 + 1, none⟩ (.int .i64 y)) (w.heap.size + 1) 2 (fun i => if i = 0 then .slice none 0 0 else .slice none 0 0)) := HR'.out
        clear HB' HR'
        generalize ((wd.setCell ⟨gb, j * 2, none⟩ (.int .i64 g)).setCell ⟨gb, j * 2 + 1, none⟩ (.int .i64 y)) = WF at *
        generalize upd c t q = cF at *
        generalize upd2 p q j g = pF at *
        generalize upd2 m q j y = mF at *
        have hzr := HR.out.lt
        have hzb := HOTF.out.nb.2.2
        have FIN : Hid _ := fin_givesT (out := chOut ⟨4, c, ⟨kn, len, p, m⟩⟩ (x : Int) (fun _ oy => oy = 0 ∧ pgOK g ∧ mayOK y) (fun _ => g) y) (w := w) (W := WF) (z := w.heap.size + 1) (b := ⟨some ⟨bt, 0, none⟩, some ⟨bl, 0, none⟩, c1, c2⟩) (R := ⟨4, cF, ⟨kn, fun _ => 4, pF, mF⟩⟩) (by omega) HOUT.out (tot4 (c := c) hk4) HB.out (HOTF.out.own hk4) (fun x hx => ⟨by omega, by omega, hx.2⟩)
        obtain ⟨t0, t1⟩ := get2 HR.out
        obtain ⟨s0, s1⟩ := get2 HOTF.out.box
        have f0 := HR.out.frozen 0
        have f1 := HR.out.frozen 1
        clear HR HB HOTF HOUT hzr hzb
        go_wp2
        exact bodyPost_ret (v := .tuple #[(BV.mk (some ⟨bt, 0, none⟩) (some ⟨bl, 0, none⟩) c1 c2).val ⟨4, cF, ⟨kn, fun _ => 4, pF, mF⟩⟩, .bool true]) (by simp [results, Try.results154, go_sem, t0, t1]) rfl FIN.out
      · have hlt' : ¬ (k : Int) < (kn : Int) := by omega
        go_upto_region 12 with fail
        clear x0 x1 tp
        generalize wr = W at *
        replace HOT : Hid (OT (w.heap.size + 1 + 1) zb W.drew bt bl c1 c2 (upd c t q) kn p m A C Z X) := HOT.out.go (Blw.refl _).drew
        replace HB : Hid (Blw w W.drew) := HB.out.drew
        replace HR : Hid (Row W.drew (w.heap.size + 1) 2 (fun i => if i = 0 then .slice none 0 0 else .slice none 0 0)) := HR.out.blw (Blw.refl _).drew
        obtain ⟨gb, ea, n1, n2, n3, hlo, hr8, hs2, -⟩ := HOT.out.leaf hqk hr4
        have x0 := (get2 HOT.out.box).1
        have x1 := (get2 HOT.out.box).2
        have tp := HOT.out.top.cell hd4
        rw [upd_at] at tp
        have ls := HOT.out.ls.row.cell hqk
        dsimp only at ls
        rw [ea] at ls
        have f0 := hr8.frozen (j * 2)
        have f1 := hr8.frozen (j * 2 + 1)
        have l0 : W.drew.cell? ⟨gb, j * 2, none⟩ = some (.int .i64 (p q j)) := by rw [hr8.cell (i := j * 2) (by omega), (uc_at _ _ j).1]
        have l1 : W.drew.cell? ⟨gb, j * 2 + 1, none⟩ = some (.int .i64 (m q j)) := by rw [hr8.cell (i := j * 2 + 1) (by omega), (uc_at _ _ j).2]
        have HOTF : Hid (OT (w.heap.size + 1 + 1) zb ((W.drew.setCell ⟨gb, j * 2, none⟩ (.int .i64 g)).setCell ⟨gb, j * 2 + 1, none⟩ (.int .i64 y)) bt bl c1 c2 (upd c t q) kn (upd2 p q j g) (upd2 m q j y) A C Z X) := hs2 g y
        have ms : Mod (fun x => x = gb) W.drew ((W.drew.setCell ⟨gb, j * 2, none⟩ (.int .i64 g)).setCell ⟨gb, j * 2 + 1, none⟩ (.int .i64 y)) := (Mod.setCell (X := fun x => x = gb) _ (p := ⟨gb, j * 2, none⟩) rfl _).trans (Mod.setCell (X := fun x => x = gb) _ (p := ⟨gb, j * 2 + 1, none⟩) rfl _)
        have HB' : Hid (Blw w ((W.drew.setCell ⟨gb, j * 2, none⟩ (.int .i64 g)).setCell ⟨gb, j * 2 + 1, none⟩ (.int .i64 y))) := Mod.blw HB.out ms (fun i hi => by omega)
        have HR' : Hid (Row ((W.drew.setCell ⟨gb, j * 2, none⟩ (.int .i64 g)).setCell ⟨gb, j * 2 + 1, none⟩ (.int .i64 y)) (w.heap.size + 1) 2 (fun i => if i = 0 then .slice none 0 0 else .slice none 0 0)) := HR.out.mod ms (by omega)
        clear hs2 hr8 ms HOT HB HR ea hlo
        have hwt : IntKind.i64.wrap ((t : Nat) : Int) = t := by rw [IntKind.wrap_i64]; omega
        have hwj : IntKind.i64.wrap ((j : Nat) : Int) = j := by rw [IntKind.wrap_i64]; omega
        have hS0 := And.intro x0 (And.intro x1 (And.intro tp ls))
        refine wp_region_noPanic ?_
        refine wp_region_held_drew (S := fun (w' : World) => w'.cell? ⟨zb, 0, none⟩ = some (.slice (some ⟨bt, 0, none⟩) 4 c1) ∧ w'.cell? ⟨zb, 1, none⟩ = some (.slice (some ⟨bl, 0, none⟩) kn c2) ∧ w'.cell? ⟨bt, t, none⟩ = some (.int .i64 q) ∧ w'.cell? ⟨bl, q, none⟩ = some (.slice (some ⟨gb, 0, none⟩) 4 (C q))) (by kernel_rfl) hS0 (fun hB => ?_)
        clear hB
        generalize W.drew = wd at *
        refine wpAnyH_take (i := 0) (oi := { dst := some 75, op := Op.fieldAddr 29 (Operand.tmp 10) 1, type := 0, pos := _, after := #[], guard := none }) (v := (.pointer (some ⟨zb, 1, none⟩))) rfl (by kernel_rfl) (by kernel_rfl) (by kernel_rfl) (fun _ _ _ h => h) (Or.inl ⟨by rfl, fun w' hS => by (try dsimp only at hS); go_simp⟩) hS0 ?_
        simp only [Act.put, List.setIfInBounds_toArray, List.set_cons_zero, List.set_cons_succ]
        refine wpAnyH_take (i := 2) (oi := { dst := some 77, op := Op.fieldAddr 29 (Operand.tmp 10) 0, type := 0, pos := _, after := #[], guard := none }) (v := (.pointer (some ⟨zb, 0, none⟩))) rfl (by kernel_rfl) (by kernel_rfl) (by kernel_rfl) (fun _ _ _ h => h) (Or.inl ⟨by rfl, fun w' hS => by (try dsimp only at hS); go_simp⟩) hS0 ?_
        simp only [Act.put, List.setIfInBounds_toArray, List.set_cons_zero, List.set_cons_succ]
        refine wpAnyH_take (i := 4) (oi := { dst := some 79, op := Op.move (Operand.tmp 11), type := 3, pos := _, after := #[], guard := none }) (v := (.int .i64 t)) rfl (by kernel_rfl) (by kernel_rfl) (by kernel_rfl) (fun _ _ _ h => h) (Or.inl ⟨by rfl, fun w' hS => by (try dsimp only at hS); go_simp⟩) hS0 ?_
        simp only [Act.put, List.setIfInBounds_toArray, List.set_cons_zero, List.set_cons_succ]
        refine wpAnyH_take (i := 9) (oi := { dst := some 84, op := Op.move (Operand.tmp 1), type := 3, pos := _, after := #[], guard := none }) (v := (.int .i64 x)) rfl (by kernel_rfl) (by kernel_rfl) (by kernel_rfl) (fun _ _ _ h => h) (Or.inl ⟨by rfl, fun w' hS => by (try dsimp only at hS); go_simp⟩) hS0 ?_
        simp only [Act.put, List.setIfInBounds_toArray, List.set_cons_zero, List.set_cons_succ]
        refine wpAnyH_take (i := 11) (oi := { dst := some 86, op := Op.move (Operand.tmp 2), type := 3, pos := _, after := #[], guard := none }) (v := (.int .i64 g)) rfl (by kernel_rfl) (by kernel_rfl) (by kernel_rfl) (fun _ _ _ h => h) (Or.inl ⟨by rfl, fun w' hS => by (try dsimp only at hS); go_simp⟩) hS0 ?_
        simp only [Act.put, List.setIfInBounds_toArray, List.set_cons_zero, List.set_cons_succ]
        refine wpAnyH_take (i := 12) (oi := { dst := some 87, op := Op.move (Operand.tmp 3), type := 3, pos := _, after := #[], guard := none }) (v := (.int .i64 y)) rfl (by kernel_rfl) (by kernel_rfl) (by kernel_rfl) (fun _ _ _ h => h) (Or.inl ⟨by rfl, fun w' hS => by (try dsimp only at hS); go_simp⟩) hS0 ?_
        simp only [Act.put, List.setIfInBounds_toArray, List.set_cons_zero, List.set_cons_succ]
        refine wpAnyH_take (i := 1) (oi := { dst := some 76, op := Op.load 27 (Operand.tmp 75), type := 27, pos := _, after := #[{ on := 0, ground := Ground.data }], guard := none }) (v := (.slice (some ⟨bl, 0, none⟩) kn c2)) rfl (by kernel_rfl) (by kernel_rfl) (by kernel_rfl) (fun _ _ _ h => h) (Or.inl ⟨by rfl, fun w' hS => by (try dsimp only at hS); go_simp⟩) hS0 ?_
        simp only [Act.put, List.setIfInBounds_toArray, List.set_cons_zero, List.set_cons_succ]
        refine wpAnyH_take (i := 3) (oi := { dst := some 78, op := Op.load 26 (Operand.tmp 77), type := 26, pos := _, after := #[{ on := 2, ground := Ground.data }], guard := none }) (v := (.slice (some ⟨bt, 0, none⟩) 4 c1)) rfl (by kernel_rfl) (by kernel_rfl) (by kernel_rfl) (fun _ _ _ h => h) (Or.inl ⟨by rfl, fun w' hS => by (try dsimp only at hS); go_simp⟩) hS0 ?_
        simp only [Act.put, List.setIfInBounds_toArray, List.set_cons_zero, List.set_cons_succ]
        refine wpAnyH_take (i := 10) (oi := { dst := some 85, op := Op.binOp BinOp.rem 3 (Operand.tmp 84) (Operand.const (Value.int IntKind.i64 4)) 3, type := 3, pos := _, after := #[{ on := 9, ground := Ground.data }], guard := none }) (v := (.int .i64 j)) rfl (by kernel_rfl) (by kernel_rfl) (by kernel_rfl) (fun _ _ _ h => h) (Or.inl ⟨by rfl, fun w' hS => by (try dsimp only at hS); go_simp⟩) hS0 ?_
        simp only [Act.put, List.setIfInBounds_toArray, List.set_cons_zero, List.set_cons_succ]
        refine wpAnyH_take (i := 13) (oi := { dst := some 88, op := Op.build 189 #[(0, Operand.tmp 86), (1, Operand.tmp 87)], type := 189, pos := _, after := #[{ on := 11, ground := Ground.data }, { on := 12, ground := Ground.data }], guard := none }) (v := (.agg #[.int .i64 g, .int .i64 y])) rfl (by kernel_rfl) (by kernel_rfl) (by kernel_rfl) (fun _ _ _ h => h) (Or.inl ⟨by rfl, fun w' hS => by (try dsimp only at hS); go_simp⟩) hS0 ?_
        simp only [Act.put, List.setIfInBounds_toArray, List.set_cons_zero, List.set_cons_succ]
        refine wpAnyH_take (i := 5) (oi := { dst := some 80, op := Op.indexAddr 26 (Operand.tmp 78) (Operand.tmp 79), type := 0, pos := _, after := #[{ on := 3, ground := Ground.data }, { on := 4, ground := Ground.data }], guard := none }) (v := (.pointer (some ⟨bt, t, none⟩))) rfl (by kernel_rfl) (by kernel_rfl) (by kernel_rfl) (fun _ _ _ h => h) (Or.inl ⟨by rfl, fun w' hS => by (try dsimp only at hS); go_simp⟩) hS0 ?_
        simp only [Act.put, List.setIfInBounds_toArray, List.set_cons_zero, List.set_cons_succ]
        refine wpAnyH_take (i := 6) (oi := { dst := some 81, op := Op.load 3 (Operand.tmp 80), type := 3, pos := _, after := #[{ on := 5, ground := Ground.data }], guard := none }) (v := (.int .i64 q)) rfl (by kernel_rfl) (by kernel_rfl) (by kernel_rfl) (fun _ _ _ h => h) (Or.inl ⟨by rfl, fun w' hS => by (try dsimp only at hS); go_simp⟩) hS0 ?_
        simp only [Act.put, List.setIfInBounds_toArray, List.set_cons_zero, List.set_cons_succ]
        refine wpAnyH_take (i := 7) (oi := { dst := some 82, op := Op.indexAddr 27 (Operand.tmp 76) (Operand.tmp 81), type := 0, pos := _, after := #[{ on := 1, ground := Ground.data }, { on := 6, ground := Ground.data }], guard := none }) (v := (.pointer (some ⟨bl, q, none⟩))) rfl (by kernel_rfl) (by kernel_rfl) (by kernel_rfl) (fun _ _ _ h => h) (Or.inl ⟨by rfl, fun w' hS => by (try dsimp only at hS); go_simp⟩) hS0 ?_
        simp only [Act.put, List.setIfInBounds_toArray, List.set_cons_zero, List.set_cons_succ]
        refine wpAnyH_take (i := 8) (oi := { dst := some 83, op := Op.load 186 (Operand.tmp 82), type := 186, pos := _, after := #[{ on := 7, ground := Ground.data }], guard := none }) (v := (.slice (some ⟨gb, 0, none⟩) 4 (C q))) rfl (by kernel_rfl) (by kernel_rfl) (by kernel_rfl) (fun _ _ _ h => h) (Or.inl ⟨by rfl, fun w' hS => by (try dsimp only at hS); go_simp⟩) hS0 ?_
        simp only [Act.put, List.setIfInBounds_toArray, List.set_cons_zero, List.set_cons_succ]
        refine wpAnyH_take (i := 14) (oi := { dst := some 89, op := Op.indexAddr 186 (Operand.tmp 83) (Operand.tmp 85), type := 0, pos := _, after := #[{ on := 8, ground := Ground.data }, { on := 10, ground := Ground.data }, { on := 0, ground := Ground.phase }, { on := 1, ground := Ground.phase }, { on := 2, ground := Ground.phase }, { on := 3, ground := Ground.phase }, { on := 4, ground := Ground.phase }, { on := 5, ground := Ground.phase }, { on := 6, ground := Ground.phase }, { on := 7, ground := Ground.phase }, { on := 8, ground := Ground.phase }, { on := 9, ground := Ground.phase }, { on := 10, ground := Ground.phase }, { on := 11, ground := Ground.phase }, { on := 12, ground := Ground.phase }, { on := 13, ground := Ground.phase }], guard := none }) (v := (.pointer (some ⟨gb, j * 2, none⟩))) rfl (by kernel_rfl) (by kernel_rfl) (by kernel_rfl) (fun _ _ _ h => h) (Or.inl ⟨by rfl, fun w' hS => by (try dsimp only at hS); go_simp⟩) hS0 ?_
        simp only [Act.put, List.setIfInBounds_toArray, List.set_cons_zero, List.set_cons_succ]
        refine wpAnyH_ready (rs := [15]) (by kernel_rfl) (by simp) ?_
        refine AllReadyH.cons (o := { dst := none, op := Op.store 189 (Operand.tmp 89) (Operand.tmp 88), type := 0, pos := _, after := #[{ on := 14, ground := Ground.data }, { on := 13, ground := Ground.data }, { on := 0, ground := Ground.phase }, { on := 1, ground := Ground.phase }, { on := 2, ground := Ground.phase }, { on := 3, ground := Ground.phase }, { on := 4, ground := Ground.phase }, { on := 5, ground := Ground.phase }, { on := 6, ground := Ground.phase }, { on := 7, ground := Ground.phase }, { on := 8, ground := Ground.phase }, { on := 9, ground := Ground.phase }, { on := 10, ground := Ground.phase }, { on := 11, ground := Ground.phase }, { on := 12, ground := Ground.phase }, { on := 13, ground := Ground.phase }], guard := none }) rfl (fun K hK => ?_) AllReadyH.nil
        go_simp
        have mS : Mod (fun x => x = gb) wd ((wd.setCell ⟨gb, j * 2, none⟩ (.int .i64 g)).setCell ⟨gb, j * 2 + 1, none⟩ (.int .i64 y)) := (Mod.setCell (X := fun x => x = gb) _ (p := ⟨gb, j * 2, none⟩) rfl _).trans (Mod.setCell (X := fun x => x = gb) _ (p := ⟨gb, j * 2 + 1, none⟩) rfl _)
        have hSt := And.intro (mS.cell x0 (fun e => n1 e.symm)) (And.intro (mS.cell x1 (fun e => n1 e.symm)) (And.intro (mS.cell tp (fun e => n2 e.symm)) (mS.cell ls (fun e => n3 e.symm))))
        clear mS
        refine hK.out _ _ hSt (fun hB => ?_)
        clear hK K hB
        try simp only [Act.put, List.setIfInBounds_toArray, List.set_cons_zero, List.set_cons_succ]
        refine wpAnyH_done (by kernel_rfl) ?_ _
        refine NoPanic.normal ?_
        clear hSt hS0 x0 x1 tp ls f0 f1 l0 l1
        replace HB : Hid (Blw w ((wd.setCell ⟨gb, j * 2, none⟩ (.int .i64 g)).setCell ⟨gb, j * 2 + 1, none⟩ (.int .i64 y))) := HB'.out
        replace HR : Hid (Row ((wd.setCell ⟨gb, j * 2, none⟩ (.int .i64 g)).setCell ⟨gb, j * 2 + 1, none⟩ (.int .i64 y)) (w.heap.size + 1) 2 (fun i => if i = 0 then .slice none 0 0 else .slice none 0 0)) := HR'.out
        clear HB' HR'
        generalize ((wd.setCell ⟨gb, j * 2, none⟩ (.int .i64 g)).setCell ⟨gb, j * 2 + 1, none⟩ (.int .i64 y)) = WF at *
        generalize upd c t q = cF at *
        generalize upd2 p q j g = pF at *
        generalize upd2 m q j y = mF at *
        have hzr := HR.out.lt
        have hzb := HOTF.out.nb.2.2
        have FIN : Hid _ := fin_givesT (out := chOut ⟨4, c, ⟨kn, len, p, m⟩⟩ (x : Int) (fun _ oy => oy = 0 ∧ pgOK g ∧ mayOK y) (fun _ => g) y) (w := w) (W := WF) (z := w.heap.size + 1) (b := ⟨some ⟨bt, 0, none⟩, some ⟨bl, 0, none⟩, c1, c2⟩) (R := ⟨4, cF, ⟨kn, fun _ => 4, pF, mF⟩⟩) (by omega) HOUT.out (tot4 (c := c) hk4) HB.out (HOTF.out.own hk4) (fun x hx => ⟨by omega, by omega, hx.2⟩)
        obtain ⟨t0, t1⟩ := get2 HR.out
        obtain ⟨s0, s1⟩ := get2 HOTF.out.box
        have f0 := HR.out.frozen 0
        have f1 := HR.out.frozen 1
        clear HR HB HOTF HOUT hzr hzb
        go_wp2
        exact bodyPost_ret (v := .tuple #[(BV.mk (some ⟨bt, 0, none⟩) (some ⟨bl, 0, none⟩) c1 c2).val ⟨4, cF, ⟨kn, fun _ => 4, pF, mF⟩⟩, .bool true]) (by simp [results, Try.results154, go_sem, t0, t1]) rfl FIN.out
end Go.Proofs.Ytbpdopcdhnemfaa
/- UnmapPage: the model's. -/
namespace Go.Proofs.Ytbpdopcdhnemfaa
open Go.RowKit
set_option linter.unusedSimpArgs false
set_option linter.unusedVariables false
theorem zero_noMay {kn q j : Nat} {c : Nat → Int} {len : Nat → Nat} {p m : Nat → Nat → Int} (g : BD.Good ⟨4, c, ⟨kn, len, p, m⟩⟩) (hq : q < kn) : isZero8 (upd2 p q j 0 q) (upd2 m q j 0 q) ↔ noMay (upd2 m q j 0 q) 4 := by
  constructor
  · intro h i hi
    rw [(h i hi).2]; omega
  · intro h i hi
    have hm := h i hi
    unfold upd2 at *
    by_cases e : i = j
    · simp [e]
    · have e2 : ¬ (q = q ∧ i = j) := fun k => e k.2
      rw [if_neg e2] at hm
      rw [if_neg e2, if_neg e2]
      have hl := (g.leaf q hq).2 i hi
      have hl' : leafOK (p q i) (m q i) := hl
      unfold leafOK at hl'
      omega
set_option maxRecDepth 10000 in
set_option maxHeartbeats 6400000 in
theorem specUnmap_any (b : BV) (B : BD) (a : Int) (Y : Nat → Prop) (w : World) (hn : B.n ≤ 1048576) (h : BookAt Y w b B) :
    Calls Try.prog 155 #[b.val B, .int .i64 a] w (GivesB (chOut B a (fun _ oy => ¬ oy = 0) (fun _ => 0) 0) w) := by
  have hA1 : Blw w (w.alloc (.cells #[.slice b.a1 B.n b.c1, .slice b.a2 B.D.n b.c2] 29)) := (Blw.refl _).alloc _
  have hA2 : Blw (w.alloc (.cells #[.slice b.a1 B.n b.c1, .slice b.a2 B.D.n b.c2] 29)) ((w.alloc (.cells #[.slice b.a1 B.n b.c1, .slice b.a2 B.D.n b.c2] 29)).alloc (.cells #[.slice none 0 0, .slice none 0 0] 29)) := (Blw.refl _).alloc _
  have HB : Hid (Blw w ((w.alloc (.cells #[.slice b.a1 B.n b.c1, .slice b.a2 B.D.n b.c2] 29)).alloc (.cells #[.slice none 0 0, .slice none 0 0] 29))) := hA1.trans hA2
  have rR := box2 (w.alloc (.cells #[.slice b.a1 B.n b.c1, .slice b.a2 B.D.n b.c2] 29)) (.slice none 0 0) (.slice none 0 0) 29
  rw [World.size_alloc] at rR
  have HR : Hid (Row ((w.alloc (.cells #[.slice b.a1 B.n b.c1, .slice b.a2 B.D.n b.c2] 29)).alloc (.cells #[.slice none 0 0, .slice none 0 0] 29)) (w.heap.size + 1) 2 (fun i => if i = 0 then .slice none 0 0 else .slice none 0 0)) := rR
  have HA : Hid (BookAt Y ((w.alloc (.cells #[.slice b.a1 B.n b.c1, .slice b.a2 B.D.n b.c2] 29)).alloc (.cells #[.slice none 0 0, .slice none 0 0] 29)) b B) := h.blw (hA1.trans hA2)
  have HA0 : Hid (Row ((w.alloc (.cells #[.slice b.a1 B.n b.c1, .slice b.a2 B.D.n b.c2] 29)).alloc (.cells #[.slice none 0 0, .slice none 0 0] 29)) w.heap.size 2 (fun i => if i = 0 then .slice b.a1 B.n b.c1 else .slice b.a2 B.D.n b.c2)) := (box2 w _ _ 29).blw hA2
  have HSZ : Hid (w.heap.size + 1 + 1 = ((w.alloc (.cells #[.slice b.a1 B.n b.c1, .slice b.a2 B.D.n b.c2] 29)).alloc (.cells #[.slice none 0 0, .slice none 0 0] 29)).heap.size) := by show _ = _; simp
  clear hA1 hA2 rR h
  go_enter Try.func155, Try.ntmps155
  obtain ⟨p0, p1⟩ := get2 HA0.out
  go_wp2_with fail
  clear p0 p1
  generalize ((w.alloc (.cells #[.slice b.a1 B.n b.c1, .slice b.a2 B.D.n b.c2] 29)).alloc (.cells #[.slice none 0 0, .slice none 0 0] 29)) = w0 at *
  refine (specGood_any b B Y _ hn HA.out).mono ?_
  rintro e w1 ⟨r, rfl, hr, hb1⟩
  have HT : Hid (r = true ↔ B.Good) := hr
  replace HSZ : Hid (w.heap.size + 1 + 1 ≤ w1.heap.size) := by have := HSZ.out; have := hb1.size; show _ ≤ _; omega
  replace HB : Hid (Blw w w1) := HB.out.trans hb1
  replace HR : Hid (Row w1 (w.heap.size + 1) 2 (fun i => if i = 0 then .slice none 0 0 else .slice none 0 0)) := HR.out.blw hb1
  replace HA0 : Hid (Row w1 w.heap.size 2 (fun i => if i = 0 then .slice b.a1 B.n b.c1 else .slice b.a2 B.D.n b.c2)) := HA0.out.blw hb1
  replace HA : Hid (BookAt Y w1 b B) := HA.out.blw hb1
  clear hr hb1
  cases r
  · have HN : Hid (¬ B.Good) := fun g => by have := HT.out.2 g; simp at this
    clear HT
    obtain ⟨t0, t1⟩ := get2 HR.out
    have f0 := HR.out.frozen 0
    have f1 := HR.out.frozen 1
    clear HR HA0
    go_wp2
    exact bodyPost_ret (v := .tuple #[BV.zero.val BD.zero, .bool false]) (by simp [results, Try.results155, go_sem, t0, t1]) rfl (zero_givesT (z := w.heap.size + 1) (by omega) (Or.inr ⟨fun q => HN.out q.1, rfl, rfl⟩) HB.out)
  have HG : Hid (B.Good) := HT.out.1 (by first | rfl | trivial)
  clear HT
  go_wp2_with fail
  refine (l6At_any a _).mono ?_
  rintro e w1 ⟨r, rfl, hr, rfl⟩
  have HT : Hid (r = true ↔ pgOK a) := hr
  clear hr
  cases r
  · have HN : Hid (¬ pgOK a) := fun g => by have := HT.out.2 g; simp at this
    clear HT
    obtain ⟨t0, t1⟩ := get2 HR.out
    have f0 := HR.out.frozen 0
    have f1 := HR.out.frozen 1
    clear HR HA0
    go_wp2
    exact bodyPost_ret (v := .tuple #[BV.zero.val BD.zero, .bool false]) (by simp [results, Try.results155, go_sem, t0, t1]) rfl (zero_givesT (z := w.heap.size + 1) (by omega) (Or.inr ⟨fun q => HN.out q.2.1, rfl, rfl⟩) HB.out)
  have H1 : Hid (pgOK a) := HT.out.1 (by first | rfl | trivial)
  clear HT
  obtain ⟨n, c, ⟨kn, len, p, m⟩⟩ := B
  obtain ⟨a1, a2, q1, q2⟩ := b
  have hn4 : n = 4 := HG.out.n
  subst hn4
  have hk4 : kn ≤ 4 := HG.out.k.2
  have hk1 : 0 < kn := HG.out.k.1
  simp only [BV.val] at *
  obtain ⟨x, hx, hx16⟩ : ∃ x : Nat, a = x ∧ x < 16 := ⟨a.toNat, by have := H1.out; unfold pgOK at this; omega, by have := H1.out; unfold pgOK at this; omega⟩
  subst hx
  have HN0 : Hid (0 ≤ lfP c m x) := lf_nonneg HG.out hx16
  obtain ⟨p0, p1⟩ := get2 HA0.out
  have hfm := fieldMay (lfP c p x) (lfP c m x)
  go_wp2_with fail
  clear p0 p1
  refine (l6Find_any ⟨a1, a2, q1, q2⟩ c kn len p m x Y _ HG.out hx16 HA.out).mono ?_
  rintro e w2 ⟨rfl, hb2⟩
  replace HB : Hid (Blw w w2) := HB.out.trans hb2
  replace HSZ : Hid (w.heap.size + 1 + 1 ≤ w2.heap.size) := by have := HSZ.out; have := hb2.size; show _ ≤ _; omega
  replace HR : Hid (Row w2 (w.heap.size + 1) 2 (fun i => if i = 0 then .slice none 0 0 else .slice none 0 0)) := HR.out.blw hb2
  replace HA0 : Hid (Row w2 w.heap.size 2 (fun i => if i = 0 then .slice a1 4 q1 else .slice a2 kn q2)) := HA0.out.blw hb2
  replace HA : Hid (BookAt Y w2 ⟨a1, a2, q1, q2⟩ ⟨4, c, ⟨kn, len, p, m⟩⟩) := HA.out.blw hb2
  clear hb2
  by_cases h0 : lfP c m x = 0
  · have HN : Hid (lfP c m x = 0) := h0
    have d1 : (lfP c m x == 0) = true := by simp [h0]
    clear h0
    obtain ⟨t0, t1⟩ := get2 HR.out
    have f0 := HR.out.frozen 0
    have f1 := HR.out.frozen 1
    clear HR HA0
    go_wp2
    exact bodyPost_ret (v := .tuple #[BV.zero.val BD.zero, .bool false]) (by simp [results, Try.results155, go_sem, t0, t1]) rfl (zero_givesT (z := w.heap.size + 1) (by omega) (Or.inr ⟨fun q => q.2.2.1 (by rw [Int.toNat_natCast]; exact HN.out), rfl, rfl⟩) HB.out)
  have HN : Hid (¬ lfP c m x = 0) := h0
  have d1 : (lfP c m x == 0) = false := by simp [h0]
  clear h0
  obtain ⟨p0, p1⟩ := get2 HA0.out
  go_wp2_with fail
  clear p0 p1 hfm
  refine (l6Own_any ⟨a1, a2, q1, q2⟩ c kn len p m Y _ hk4 (fun i hi => (HG.out.leaf i hi).1) HA.out).mono ?_
  rintro e w3 ⟨b3, rfl, own, hb3⟩
  have hs3 := HSZ.out
  have hs4 := hb3.size
  obtain ⟨bt, bl, c1, c2, A, C, Z, X, rfl, hOT⟩ := OT.make (lo := w.heap.size + 1 + 1) hk1 (own.mono (fun x hx => ⟨by omega, hx.2⟩)) (by omega)
  have hA3 : Blw w3 (w3.alloc (.cells #[.slice (some ⟨bt, 0, none⟩) 4 c1, .slice (some ⟨bl, 0, none⟩) kn c2] 29)) := (Blw.refl _).alloc _
  have HOT : Hid (OT (w.heap.size + 1 + 1) w3.heap.size (w3.alloc (.cells #[.slice (some ⟨bt, 0, none⟩) 4 c1, .slice (some ⟨bl, 0, none⟩) kn c2] 29)) bt bl c1 c2 c kn p m A C Z X) := hOT
  replace HB : Hid (Blw w (w3.alloc (.cells #[.slice (some ⟨bt, 0, none⟩) 4 c1, .slice (some ⟨bl, 0, none⟩) kn c2] 29))) := HB.out.trans (hb3.trans hA3)
  replace HR : Hid (Row (w3.alloc (.cells #[.slice (some ⟨bt, 0, none⟩) 4 c1, .slice (some ⟨bl, 0, none⟩) kn c2] 29)) (w.heap.size + 1) 2 (fun i => if i = 0 then .slice none 0 0 else .slice none 0 0)) := HR.out.blw (hb3.trans hA3)
  have hd : Int.tdiv (x : Int) 4 = ((x / 4 : Nat) : Int) := by rw [Int.tdiv_eq_ediv_of_nonneg (by omega)]; rfl
  have hr : Int.tmod (x : Int) 4 = ((x % 4 : Nat) : Int) := by rw [Int.tmod_eq_emod_of_nonneg (by omega)]; rfl
  have hd4 : x / 4 < 4 := by omega
  have hr4 : x % 4 < 4 := by omega
  have hd4' : ((x / 4 : Nat) : Int) < 4 := by omega
  have hr4' : ((x % 4 : Nat) : Int) < 4 := by omega
  have htop := HG.out.top (x / 4) hd4
  dsimp only at htop
  clear own hb3 hA3 hs3 hs4 hOT HA HA0
  obtain ⟨q, hcq, hqk⟩ := lf_top HN.out htop
  have HCQ : Hid (c (x / 4) = q) := hcq
  have hqk' : (q : Int) < (kn : Int) := by omega
  have HZM : Hid (isZero8 (upd2 p q (x % 4) 0 q) (upd2 m q (x % 4) 0 q) ↔ noMay (upd2 m q (x % 4) 0 q) 4) := zero_noMay HG.out hqk
  have HOUT : Hid (∀ c', c' = topsOf c (x / 4) q (upd2 p q (x % 4) 0 q) (upd2 m q (x % 4) 0 q) → chOut ⟨4, c, ⟨kn, len, p, m⟩⟩ (x : Int) (fun _ oy => ¬ oy = 0) (fun _ => 0) 0 ⟨4, c', ⟨kn, fun _ => 4, upd2 p q (x % 4) 0, upd2 m q (x % 4) 0⟩⟩ true) := by
    rintro c' rfl
    refine Or.inl ⟨⟨HG.out, H1.out, by rw [Int.toNat_natCast]; exact HN.out, q, by rw [Int.toNat_natCast]; exact Or.inl hcq⟩, ⟨q, by rw [Int.toNat_natCast]; exact Or.inl hcq, ?_⟩, rfl⟩
    rw [Int.toNat_natCast]
    rfl
  clear hcq htop HN HN0
  go_upto_region 4 with fail
  generalize w3.alloc (.cells #[.slice (some ⟨bt, 0, none⟩) 4 c1, .slice (some ⟨bl, 0, none⟩) kn c2] 29) = W at *
  generalize w3.heap.size = zb at *
  obtain ⟨gb, ea, n1, n2, n3, hlo, hr8, hs2, -⟩ := HOT.out.leaf hqk hr4
  generalize x / 4 = t at *
  generalize x % 4 = j at *
  obtain ⟨x0, x1⟩ := get2 HOT.out.box
  have tp := HOT.out.top.cell hd4
  rw [HCQ.out] at tp
  have ls := HOT.out.ls.row.cell hqk
  dsimp only at ls
  rw [ea] at ls
  have f0 := hr8.frozen (j * 2)
  have f1 := hr8.frozen (j * 2 + 1)
  have l0 : W.cell? ⟨gb, j * 2, none⟩ = some (.int .i64 (p q j)) := by rw [hr8.cell (i := j * 2) (by omega), (uc_at _ _ j).1]
  have l1 : W.cell? ⟨gb, j * 2 + 1, none⟩ = some (.int .i64 (m q j)) := by rw [hr8.cell (i := j * 2 + 1) (by omega), (uc_at _ _ j).2]
  have HOTF : Hid (OT (w.heap.size + 1 + 1) zb ((W.setCell ⟨gb, j * 2, none⟩ (.int .i64 0)).setCell ⟨gb, j * 2 + 1, none⟩ (.int .i64 0)) bt bl c1 c2 c kn (upd2 p q j 0) (upd2 m q j 0) A C Z X) := hs2 0 0
  have ms : Mod (fun x => x = gb) W ((W.setCell ⟨gb, j * 2, none⟩ (.int .i64 0)).setCell ⟨gb, j * 2 + 1, none⟩ (.int .i64 0)) := (Mod.setCell (X := fun x => x = gb) _ (p := ⟨gb, j * 2, none⟩) rfl _).trans (Mod.setCell (X := fun x => x = gb) _ (p := ⟨gb, j * 2 + 1, none⟩) rfl _)
  replace HB : Hid (Blw w ((W.setCell ⟨gb, j * 2, none⟩ (.int .i64 0)).setCell ⟨gb, j * 2 + 1, none⟩ (.int .i64 0))) := Mod.blw HB.out ms (fun i hi => by omega)
  replace HR : Hid (Row ((W.setCell ⟨gb, j * 2, none⟩ (.int .i64 0)).setCell ⟨gb, j * 2 + 1, none⟩ (.int .i64 0)) (w.heap.size + 1) 2 (fun i => if i = 0 then .slice none 0 0 else .slice none 0 0)) := HR.out.mod ms (by omega)
  have EA : Hid (A q = some ⟨gb, 0, none⟩) := ea
  clear hs2 hr8 ms HOT ea hlo
  go_upto_region 7 with fail
  clear x0 x1 tp ls f0 f1 l0 l1
  generalize ((W.setCell ⟨gb, j * 2, none⟩ (.int .i64 0)).setCell ⟨gb, j * 2 + 1, none⟩ (.int .i64 0)) = W2 at *
  generalize upd2 p q j 0 = p' at *
  generalize upd2 m q j 0 = m' at *
  obtain ⟨x0, x1⟩ := get2 HOTF.out.box
  have ls := HOTF.out.ls.row.cell hqk
  dsimp only at ls
  rw [EA.out] at ls
  go_wp2_with fail
  clear x0 x1 ls
  refine (l6Empty_any _ _ 4 (p' q) (m' q) _ _ (by have h1 := (HOTF.out.ls.own q hqk).at; dsimp only at h1; rw [EA.out] at h1; exact h1)).mono ?_
  rintro e W3 ⟨r, rfl, hr3, hb3⟩
  replace HOTF : Hid (OT (w.heap.size + 1 + 1) zb W3 bt bl c1 c2 c kn p' m' A C Z X) := HOTF.out.go hb3
  replace HB : Hid (Blw w W3) := HB.out.trans hb3
  replace HR : Hid (Row W3 (w.heap.size + 1) 2 (fun i => if i = 0 then .slice none 0 0 else .slice none 0 0)) := HR.out.blw hb3
  have HRZ : Hid (r = true ↔ isZero8 (p' q) (m' q)) := hr3.trans HZM.out.symm
  clear hr3 hb3 HZM
  cases r
  · have hc' : c = topsOf c t q (p' q) (m' q) := by rw [topsOf_no (fun g => by have := HRZ.out.2 g; simp at this), upd_self HCQ.out]
    replace HOUT : Hid (chOut ⟨4, c, ⟨kn, len, p, m⟩⟩ (x : Int) (fun _ oy => ¬ oy = 0) (fun _ => 0) 0 ⟨4, c, ⟨kn, fun _ => 4, p', m'⟩⟩ true) := HOUT.out c hc'
    clear hc' HRZ HCQ
    have hzr := HR.out.lt
    have hzb := HOTF.out.nb.2.2
    have FIN : Hid _ := fin_givesT (out := chOut ⟨4, c, ⟨kn, len, p, m⟩⟩ (x : Int) (fun _ oy => ¬ oy = 0) (fun _ => 0) 0) (w := w) (W := W3) (z := w.heap.size + 1) (b := ⟨some ⟨bt, 0, none⟩, some ⟨bl, 0, none⟩, c1, c2⟩) (R := ⟨4, c, ⟨kn, fun _ => 4, p', m'⟩⟩) (by omega) HOUT.out (tot4 (c := c) hk4) HB.out (HOTF.out.own hk4) (fun x hx => ⟨by omega, by omega, hx.2⟩)
    obtain ⟨t0, t1⟩ := get2 HR.out
    obtain ⟨s0, s1⟩ := get2 HOTF.out.box
    have f0 := HR.out.frozen 0
    have f1 := HR.out.frozen 1
    clear HR HB HOTF HOUT hzr hzb
    go_wp2
    exact bodyPost_ret (v := .tuple #[(BV.mk (some ⟨bt, 0, none⟩) (some ⟨bl, 0, none⟩) c1 c2).val ⟨4, c, ⟨kn, fun _ => 4, p', m'⟩⟩, .bool true]) (by simp [results, Try.results155, go_sem, t0, t1]) rfl FIN.out
  · have hc' : upd c t (-1) = topsOf c t q (p' q) (m' q) := by rw [topsOf_yes (HRZ.out.1 (by first | rfl | trivial))]
    replace HOUT : Hid (chOut ⟨4, c, ⟨kn, len, p, m⟩⟩ (x : Int) (fun _ oy => ¬ oy = 0) (fun _ => 0) 0 ⟨4, upd c t (-1), ⟨kn, fun _ => 4, p', m'⟩⟩ true) := HOUT.out _ hc'
    clear hc' HRZ
    obtain ⟨x0, x1⟩ := get2 HOTF.out.box
    have tp := HOTF.out.top.cell hd4
    have f0 := HOTF.out.top.frozen t
    have ms : Mod (fun x => x = bt) W3 (W3.setCell ⟨bt, t, none⟩ (.int .i64 (-1))) := Mod.setCell (X := fun x => x = bt) _ (p := ⟨bt, t, none⟩) rfl _
    have hb := HOTF.out.nb
    replace HOTF : Hid (OT (w.heap.size + 1 + 1) zb (W3.setCell ⟨bt, t, none⟩ (.int .i64 (-1))) bt bl c1 c2 (upd c t (-1)) kn p' m' A C Z X) := HOTF.out.setTop t (-1)
    replace HB : Hid (Blw w (W3.setCell ⟨bt, t, none⟩ (.int .i64 (-1)))) := Mod.blw HB.out ms (fun i hi => by omega)
    replace HR : Hid (Row (W3.setCell ⟨bt, t, none⟩ (.int .i64 (-1))) (w.heap.size + 1) 2 (fun i => if i = 0 then .slice none 0 0 else .slice none 0 0)) := HR.out.mod ms (by omega)
    clear ms hb HCQ
    go_upto_region 9 with fail
    clear x0 x1 tp f0
    generalize W3.setCell ⟨bt, t, none⟩ (.int .i64 (-1)) = W4 at *
    have hzr := HR.out.lt
    have hzb := HOTF.out.nb.2.2
    have FIN : Hid _ := fin_givesT (out := chOut ⟨4, c, ⟨kn, len, p, m⟩⟩ (x : Int) (fun _ oy => ¬ oy = 0) (fun _ => 0) 0) (w := w) (W := W4) (z := w.heap.size + 1) (b := ⟨some ⟨bt, 0, none⟩, some ⟨bl, 0, none⟩, c1, c2⟩) (R := ⟨4, upd c t (-1), ⟨kn, fun _ => 4, p', m'⟩⟩) (by omega) HOUT.out (tot4 (c := c) hk4) HB.out (HOTF.out.own hk4) (fun x hx => ⟨by omega, by omega, hx.2⟩)
    obtain ⟨t0, t1⟩ := get2 HR.out
    obtain ⟨s0, s1⟩ := get2 HOTF.out.box
    have f0 := HR.out.frozen 0
    have f1 := HR.out.frozen 1
    clear HR HB HOTF HOUT hzr hzb
    go_wp2
    exact bodyPost_ret (v := .tuple #[(BV.mk (some ⟨bt, 0, none⟩) (some ⟨bl, 0, none⟩) c1 c2).val ⟨4, upd c t (-1), ⟨kn, fun _ => 4, p', m'⟩⟩, .bool true]) (by simp [results, Try.results155, go_sem, t0, t1]) rfl FIN.out
end Go.Proofs.Ytbpdopcdhnemfaa
/- Lists of structs of K numbers: what they read as, what is owned. -/
namespace Go.Proofs.Ytbpdopcdhnemfaa
open Go.RowKit
set_option linter.unusedSimpArgs false
set_option linter.unusedVariables false
def kc (K : Nat) (F : Nat → Nat → Int) : Nat → Value := fun j => .int .i64 (F (j / K) (j % K))
theorem kc_at {K : Nat} (F : Nat → Nat → Int) (i : Nat) {c : Nat} (hc : c < K) : kc K F (i * K + c) = .int .i64 (F i c) := by
  unfold kc
  rw [Nat.mul_comm, Nat.mul_add_div (by omega), Nat.div_eq_of_lt hc, Nat.mul_add_mod, Nat.mod_eq_of_lt hc, Nat.add_zero]
theorem kc_lt {K n i c : Nat} (hi : i < n) (hc : c < K) : i * K + c < n * K := by
  have : (i + 1) * K ≤ n * K := Nat.mul_le_mul_right K hi
  rw [Nat.succ_mul] at this
  omega
/-- The slice at 'ao' reads as the n structs F, all in blocks of Y. -/
def KAt (K : Nat) (Y : Nat → Prop) (w : World) (ao : Option Addr) (n : Nat) (F : Nat → Nat → Int) : Prop :=
  n ≤ 9223372036854775807 ∧ ∀ i, i < n → ∃ b o, ao = some ⟨b, o, none⟩ ∧ Y b ∧ ∀ c, c < K → w.cell? ⟨b, o + i * K + c, none⟩ = some (.int .i64 (F i c))
def KOwn (K : Nat) (X : Nat → Prop) (w : World) (ao : Option Addr) (n : Nat) (F : Nat → Nat → Int) : Prop :=
  n ≤ 9223372036854775807 ∧ (0 < n → ∃ b, X b ∧ ao = some ⟨b, 0, none⟩ ∧ Row w b (n * K) (kc K F))
theorem k_get {w : World} {b n K : Nat} {F : Nat → Nat → Int} (r : Row w b (n * K) (kc K F)) {i c : Nat} (hi : i < n) (hc : c < K) : w.cell? ⟨b, i * K + c, none⟩ = some (.int .i64 (F i c)) := by
  rw [r.cell (kc_lt hi hc), kc_at F i hc]
theorem KOwn.at {K : Nat} {X : Nat → Prop} {w : World} {ao : Option Addr} {n : Nat} {F : Nat → Nat → Int} (h : KOwn K X w ao n F) : KAt K X w ao n F := by
  refine ⟨h.1, fun i hi => ?_⟩
  obtain ⟨b, hx, e, hr⟩ := h.2 (by omega)
  exact ⟨b, 0, e, hx, fun c hc => by rw [Nat.zero_add]; exact k_get hr hi hc⟩
theorem KAt.blw {K : Nat} {Y : Nat → Prop} {w w' : World} {ao : Option Addr} {n : Nat} {F : Nat → Nat → Int} (h : KAt K Y w ao n F) (hb : Blw w w') : KAt K Y w' ao n F :=
  ⟨h.1, fun i hi => let ⟨b, o, e, hY, h0⟩ := h.2 i hi; ⟨b, o, e, hY, fun c hc => hb.cell (h0 c hc)⟩⟩
theorem KAt.mod {K : Nat} {Y : Nat → Prop} {w w' : World} {ao : Option Addr} {n : Nat} {F : Nat → Nat → Int} {X : Nat → Prop} (h : KAt K Y w ao n F) (hb : Mod X w w') (hxy : ∀ k, Y k → ¬ X k) : KAt K Y w' ao n F :=
  ⟨h.1, fun i hi => let ⟨b, o, e, hY, h0⟩ := h.2 i hi; ⟨b, o, e, hY, fun c hc => hb.cell (h0 c hc) (hxy _ hY)⟩⟩
theorem KAt.mono {K : Nat} {Y : Nat → Prop} {w : World} {ao : Option Addr} {n : Nat} {F : Nat → Nat → Int} {X : Nat → Prop} (h : KAt K X w ao n F) (hxy : ∀ b, X b → Y b) : KAt K Y w ao n F :=
  ⟨h.1, fun i hi => let ⟨b, o, e, hY, h0⟩ := h.2 i hi; ⟨b, o, e, hxy _ hY, h0⟩⟩
theorem KAt.congr {K : Nat} {Y : Nat → Prop} {w : World} {ao : Option Addr} {n : Nat} {F : Nat → Nat → Int} {F' : Nat → Nat → Int} (h : KAt K Y w ao n F) (e : ∀ i c, i < n → c < K → F i c = F' i c) : KAt K Y w ao n F' :=
  ⟨h.1, fun i hi => let ⟨b, o, ea, hY, h0⟩ := h.2 i hi; ⟨b, o, ea, hY, fun c hc => by rw [← e i c hi hc]; exact h0 c hc⟩⟩
theorem KOwn.mod {K : Nat} {X Z : Nat → Prop} {w w' : World} {ao : Option Addr} {n : Nat} {F : Nat → Nat → Int} (h : KOwn K X w ao n F) (hb : Mod Z w w') (hxz : ∀ b, X b → ¬ Z b) : KOwn K X w' ao n F :=
  ⟨h.1, fun hn => let ⟨b, hx, e, hr⟩ := h.2 hn; ⟨b, hx, e, hr.mod hb (hxz _ hx)⟩⟩
theorem KOwn.blw {K : Nat} {X : Nat → Prop} {w w' : World} {ao : Option Addr} {n : Nat} {F : Nat → Nat → Int} (h : KOwn K X w ao n F) (hb : Blw w w') : KOwn K X w' ao n F := h.mod (hb.mod (fun _ => False)) (fun _ _ => id)
theorem KOwn.mono {K : Nat} {X Y : Nat → Prop} {w : World} {ao : Option Addr} {n : Nat} {F : Nat → Nat → Int} (h : KOwn K X w ao n F) (hxy : ∀ b, X b → Y b) : KOwn K Y w ao n F :=
  ⟨h.1, fun hn => let ⟨b, hx, e, hr⟩ := h.2 hn; ⟨b, hxy _ hx, e, hr⟩⟩
theorem KOwn.nil (K : Nat) (X : Nat → Prop) (w : World) (ao : Option Addr) (F : Nat → Nat → Int) : KOwn K X w ao 0 F := ⟨by omega, fun h => absurd h (by omega)⟩
theorem KOwn.congr {K : Nat} {X : Nat → Prop} {w : World} {ao : Option Addr} {n : Nat} {F F' : Nat → Nat → Int} (hK : 0 < K) (h : KOwn K X w ao n F) (e : ∀ i c, i < n → c < K → F i c = F' i c) : KOwn K X w ao n F' :=
  ⟨h.1, fun hn => let ⟨b, hx, ea, hr⟩ := h.2 hn; ⟨b, hx, ea, hr.congr fun j hj => by
    unfold kc
    rw [e (j / K) (j % K) (Nat.div_lt_of_lt_mul (by rw [Nat.mul_comm]; exact hj)) (Nat.mod_lt _ hK)]⟩⟩
def updF (F : Nat → Nat → Int) (i c : Nat) (v : Int) : Nat → Nat → Int := fun a b => if a = i ∧ b = c then v else F a b
theorem setK {w : World} {b n K : Nat} {F : Nat → Nat → Int} (r : Row w b (n * K) (kc K F)) (i : Nat) {c : Nat} (hc : c < K) (v : Int) : Row (w.setCell ⟨b, i * K + c, none⟩ (.int .i64 v)) b (n * K) (kc K (updF F i c v)) :=
  (r.set (i * K + c) _).congr (fun j hj => by
    have hK : 0 < K := by omega
    by_cases e : j = i * K + c
    · rw [if_pos e, e, kc_at _ i hc]; unfold updF; rw [if_pos ⟨rfl, rfl⟩]
    · rw [if_neg e]
      unfold kc updF
      have : ¬ (j / K = i ∧ j % K = c) := fun h => e (by have h1 := Nat.div_add_mod j K; rw [h.1, h.2, Nat.mul_comm] at h1; exact h1.symm)
      rw [if_neg this])
/-- What a list holds behind a mark. -/
def mkK (K : Nat) (k : Int) : Nat → Nat → Int := fun i c => k + K * i + c
def upK (G F : Nat → Nat → Int) (i : Nat) : Nat → Nat → Int := fun a c => if a < i then G a c else F a c
theorem upK_zero (G F : Nat → Nat → Int) : upK G F 0 = F := by funext a c; unfold upK; rw [if_neg (Nat.not_lt_zero _)]
theorem upK_all {K : Nat} {X : Nat → Prop} {w : World} {ao : Option Addr} {n : Nat} {G F : Nat → Nat → Int} (hK : 0 < K) (h : KOwn K X w ao n (upK G F n)) : KOwn K X w ao n G := h.congr hK (fun i c hi _ => by unfold upK; rw [if_pos hi])
theorem kAt_get {K : Nat} {Y : Nat → Prop} {w : World} {ao : Option Addr} {n : Nat} {F : Nat → Nat → Int} (h : KAt K Y w ao n F) {i : Nat} (hi : i < n) : ∃ b o, ao = some ⟨b, o, none⟩ ∧ Y b ∧ ∀ c, c < K → w.cell? ⟨b, o + i * K + c, none⟩ = some (.int .i64 (F i c)) := h.2 i hi
theorem Row.madeK (w : World) (z : Array Value) (v : Value) (hz : ∀ i, i < z.size → z[i]? = some v) (h0 : 0 < z.size) (n : Nat) (t : TypeId) : Row (w.alloc (.cells (madeCells z n) t)) w.heap.size n (fun _ => v) := by
  refine ⟨_, t, heap_alloc_new _ _, by simp [madeCells], fun i hi => ?_⟩
  have h2 : i % z.size < z.size := Nat.mod_lt _ h0
  have := hz (i % z.size) h2
  simp [madeCells, hi, getElem!_def, this]
end Go.Proofs.Ytbpdopcdhnemfaa
/- The laws' functions on lists of Sh. -/
namespace Go.Proofs.Ytbpdopcdhnemfaa
open Go.RowKit
set_option linter.unusedSimpArgs false
set_option linter.unusedVariables false
theorem infoSh : (Try.prog.info? 129).map (fun i => (i.zero, i.size, i.bytes)) = some (some (.agg #[.int .i64 0, .int .i64 0, .int .i64 0]), 3, 24) := by kernel_rfl
theorem mkSh (n : Nat) (hn : n ≤ 1048576) (w : World) : (Instr.makeSlice 30 (.int .i64 n) (.int .i64 n)).run Try.prog w = .ok (.slice (some ⟨w.heap.size, 0, none⟩) n n) (w.alloc (.cells (madeCells #[.int .i64 0, .int .i64 0, .int .i64 0] (n * 3)) 129)) := by
  obtain ⟨i0, hi, hz0, hz1, hz2⟩ := info_parts infoSh
  have h := run_make (P := Try.prog) w 30 129 i0 (.agg #[.int .i64 0, .int .i64 0, .int .i64 0]) Try.underlying30 hi hz0 .i64 .i64 (n : Int) (n : Int) (by omega) (Int.le_refl _) (by rw [hz2]; omega) (by omega)
  simpa [hz1, Value.cells] using h
set_option maxHeartbeats 800000 in
theorem eqSh1_same (x0 x1 x2 : Int) (w : World) : Calls Try.prog 182 #[.agg #[.int .i64 x0, .int .i64 x1, .int .i64 x2], .agg #[.int .i64 x0, .int .i64 x1, .int .i64 x2]] w fun e w' => e = .returned (.bool true) ∧ Blw w w' := by
  have h0 : (x0 != x0) = false := by simp
  have h1 : (x1 != x1) = false := by simp
  have h2 : (x2 != x2) = false := by simp
  go_enter Try.func182, Try.ntmps182
  go_wp2
  go_ret
  exact ⟨rfl, ((Blw.refl _).alloc _).alloc _⟩
set_option maxHeartbeats 1600000 in
theorem eqSh_same (a1 a2 : Option Addr) (c1 c2 n : Nat) (F : Nat → Nat → Int) {X Y : Nat → Prop} (w : World) (h1 : KAt 3 X w a1 n F) (h2 : KAt 3 Y w a2 n F) :
    Calls Try.prog 134 #[.slice a1 n c1, .slice a2 n c2] w fun e w' => e = .returned (.bool true) ∧ Blw w w' := by
  have H1 : Hid (KAt 3 X w a1 n F) := h1
  have H2 : Hid (KAt 3 Y w a2 n F) := h2
  have hn := h1.1
  clear h1 h2
  have hne : ((n : Int) != (n : Int)) = false := by simp
  go_enter Try.func134, Try.ntmps134
  go_wp2_with fail
  go_loopw [5] (fun i wr => ∃ k : Nat, k ≤ n ∧ i = .int .i64 k ∧ Blw w wr) (fun i _ => n - (intOf i).toNat)
  case atStart => exact ⟨0, Nat.zero_le _, rfl, Blw.refl _⟩
  case round =>
    obtain ⟨k, hk, rfl, hb⟩ := hrel
    by_cases hlt : k < n
    · have hlt' : (k : Int) < n := by omega
      obtain ⟨b1, o1, rfl, -, g1⟩ := (H1.out.blw hb).2 k hlt
      obtain ⟨b2, o2, rfl, -, g2⟩ := (H2.out.blw hb).2 k hlt
      generalize hFk : F k = Fk at *
      have P0 : ∀ w', Blw wr w' → w'.cell? ⟨b1, o1 + k * 3, none⟩ = some (.int .i64 (Fk 0)) := fun w' hh => hh.cell (g1 0 (by omega))
      have Q0 : ∀ w', Blw wr w' → w'.cell? ⟨b2, o2 + k * 3, none⟩ = some (.int .i64 (Fk 0)) := fun w' hh => hh.cell (g2 0 (by omega))
      have P1 : ∀ w', Blw wr w' → w'.cell? ⟨b1, o1 + k * 3 + 1, none⟩ = some (.int .i64 (Fk 1)) := fun w' hh => hh.cell (g1 1 (by omega))
      have Q1 : ∀ w', Blw wr w' → w'.cell? ⟨b2, o2 + k * 3 + 1, none⟩ = some (.int .i64 (Fk 1)) := fun w' hh => hh.cell (g2 1 (by omega))
      have P2 : ∀ w', Blw wr w' → w'.cell? ⟨b1, o1 + k * 3 + 2, none⟩ = some (.int .i64 (Fk 2)) := fun w' hh => hh.cell (g1 2 (by omega))
      have Q2 : ∀ w', Blw wr w' → w'.cell? ⟨b2, o2 + k * 3 + 2, none⟩ = some (.int .i64 (Fk 2)) := fun w' hh => hh.cell (g2 2 (by omega))
      have HB : Hid (Blw w wr) := hb
      clear g1 g2 H1 H2 hb hFk
      go_wp2_with fail
      go_region_held3 (fun w' => Blw wr w') ((first | exact (Blw.refl _).drew | assumption | exact Blw.trans (by assumption) (by assumption))) (first
        | (go_at_call 182; refine (eqSh1_same (Fk 0) (Fk 1) (Fk 2) _).mono ?_; rintro e w7 ⟨rfl, hb7⟩))
      all_goals go_wp2
      all_goals go_roundw
      all_goals first | exact ⟨k + 1, by omega, by go_num, HB.out.trans (by assumption)⟩ | (simp [intOf]; omega)
    · obtain rfl : k = n := by omega
      go_wp2
      go_ret
      exact ⟨rfl, hb⟩
set_option maxHeartbeats 3200000 in
theorem markSh_any (ao : Option Addr) (c n : Nat) (F : Nat → Nat → Int) (X : Nat → Prop) (k : Int) (w : World) (h1 : 0 ≤ k) (h2 : k + 3 * n ≤ 9223372036854775807) (h : KOwn 3 X w ao n F) :
    Calls Try.prog 137 #[.slice ao n c, .int .i64 k] w fun e w' => e = .returned (.int .i64 (k + 3 * n)) ∧ KOwn 3 X w' ao n (mkK 3 k) ∧ Mod X w w' := by
  have H : Hid (KOwn 3 X w ao n F) := h
  have hn := h.1
  clear h
  go_enter Try.func137, Try.ntmps137
  go_wp2_with fail
  go_loopw [1, 5] (fun kv iv wr => ∃ i : Nat, i ≤ n ∧ iv = .int .i64 i ∧ kv = .int .i64 (k + 3 * i) ∧ KOwn 3 X wr ao n (upK (mkK 3 k) F i) ∧ Mod X w wr) (fun _ i _ => n - (intOf i).toNat)
  case atStart => exact ⟨0, Nat.zero_le _, rfl, by simp, by rw [upK_zero]; exact H.out, Mod.refl _ _⟩
  case round =>
    obtain ⟨i, hi, rfl, rfl, S, hm⟩ := hrel
    clear H
    by_cases hlt : i < n
    · have hlt' : (i : Int) < n := by omega
      obtain ⟨b, hx, rfl, r⟩ := S.2 (by omega)
      have p0 := k_get r hlt (c := 0) (by omega)
      have f0 := r.frozen (i * 3)
      have p1 := k_get r hlt (c := 1) (by omega)
      have f1 := r.frozen (i * 3 + 1)
      have p2 := k_get r hlt (c := 2) (by omega)
      have f2 := r.frozen (i * 3 + 2)
      rw [Nat.add_zero] at p0
      have HR : Hid (Row (((wr.setCell ⟨b, i * 3, none⟩ (.int .i64 (k + 3 * i))).setCell ⟨b, i * 3 + 1, none⟩ (.int .i64 (k + 3 * i + 1))).setCell ⟨b, i * 3 + 2, none⟩ (.int .i64 (k + 3 * i + 1 + 1))) b (n * 3) (kc 3 (upK (mkK 3 k) F (i + 1)))) := by
        have hq := (setK (setK (setK r i (c := 0) (by omega) (k + 3 * i)) i (c := 1) (by omega) (k + 3 * i + 1)) i (c := 2) (by omega) (k + 3 * i + 1 + 1))
        rw [Nat.add_zero] at hq
        refine hq.congr (fun t ht => ?_)
        have ht2 : t % 3 < 3 := Nat.mod_lt _ (by omega)
        unfold kc updF upK mkK
        by_cases e : t / 3 = i
        · simp only [e, true_and, Nat.lt_succ_self, if_true]
          rcases (show t % 3 = 0 ∨ t % 3 = 1 ∨ t % 3 = 2 by omega) with e2 | e2 | e2 <;> simp [e2] <;> omega
        · have e3 : (t / 3 < i + 1) = (t / 3 < i) := by simp; omega
          simp [e, e3]
      have HM : Hid (Mod X w (((wr.setCell ⟨b, i * 3, none⟩ (.int .i64 (k + 3 * i))).setCell ⟨b, i * 3 + 1, none⟩ (.int .i64 (k + 3 * i + 1))).setCell ⟨b, i * 3 + 2, none⟩ (.int .i64 (k + 3 * i + 1 + 1)))) := (((hm.trans (Mod.setCell _ (p := ⟨b, i * 3, none⟩) hx _)).trans (Mod.setCell _ (p := ⟨b, i * 3 + 1, none⟩) hx _)).trans (Mod.setCell _ (p := ⟨b, i * 3 + 2, none⟩) hx _))
      clear S hm r
      have ee : k + 3 * (i : Int) + 1 + 1 + 1 = k + 3 * ((i + 1 : Nat) : Int) := by omega
      go_wp2
      go_roundw
      case rel => exact ⟨i + 1, by omega, by go_num, by congr 1 <;> omega, ⟨hn, fun _ => ⟨b, hx, rfl, HR.out⟩⟩, HM.out⟩
      case measure => simp [intOf]; omega
    · obtain rfl : i = n := by omega
      go_wp2
      go_ret
      exact ⟨rfl, upK_all (by omega) S, hm⟩
set_option maxHeartbeats 3200000 in
theorem heldSh_any (ao : Option Addr) (c n : Nat) (X : Nat → Prop) (k : Int) (w : World) (h1 : 0 ≤ k) (h2 : k + 3 * n ≤ 9223372036854775807) (h : KOwn 3 X w ao n (mkK 3 k)) :
    Calls Try.prog 139 #[.slice ao n c, .int .i64 k] w fun e w' => e = .returned (.int .i64 (k + 3 * n)) ∧ Blw w w' := by
  have H : Hid (KOwn 3 X w ao n (mkK 3 k)) := h
  have hn := h.1
  clear h
  go_enter Try.func139, Try.ntmps139
  go_wp2_with fail
  go_loopw [1, 5] (fun kv iv wr => ∃ i : Nat, i ≤ n ∧ iv = .int .i64 i ∧ kv = .int .i64 (k + 3 * i) ∧ wr = w) (fun _ i _ => n - (intOf i).toNat)
  case atStart => exact ⟨0, Nat.zero_le _, rfl, by simp, rfl⟩
  case round =>
    obtain ⟨i, hi, rfl, rfl, rfl⟩ := hrel
    by_cases hlt : i < n
    · have hlt' : (i : Int) < n := by omega
      obtain ⟨b, hx, rfl, r⟩ := H.out.2 (by omega)
      have p0 : _ = some (Value.int .i64 (k + 3 * (i : Int))) := (k_get r hlt (c := 0) (by omega)).trans (by unfold mkK; congr 2 <;> omega)
      have n0 : ((k + 3 * (i : Int)) != (k + 3 * (i : Int))) = false := by simp
      have p1 : _ = some (Value.int .i64 (k + 3 * (i : Int) + 1)) := (k_get r hlt (c := 1) (by omega)).trans (by unfold mkK; congr 2 <;> omega)
      have n1 : ((k + 3 * (i : Int) + 1) != (k + 3 * (i : Int) + 1)) = false := by simp
      have p2 : _ = some (Value.int .i64 (k + 3 * (i : Int) + 1 + 1)) := (k_get r hlt (c := 2) (by omega)).trans (by unfold mkK; congr 2 <;> omega)
      have n2 : ((k + 3 * (i : Int) + 1 + 1) != (k + 3 * (i : Int) + 1 + 1)) = false := by simp
      rw [Nat.add_zero] at p0
      clear r
      go_wp2
      go_roundw
      case rel => exact ⟨i + 1, by omega, by go_num, by congr 1 <;> omega, by first | rfl | trivial⟩
      case measure => simp [intOf]; omega
    · obtain rfl : i = n := by omega
      go_wp2
      go_ret
      exact ⟨rfl, Blw.refl _⟩
end Go.Proofs.Ytbpdopcdhnemfaa
/- Walkers: what they read as, what is owned; compared, marked, held. -/
namespace Go.Proofs.Ytbpdopcdhnemfaa
open Go.RowKit
set_option linter.unusedSimpArgs false
set_option linter.unusedVariables false
theorem box4 (w : World) (a b c d : Value) (t : TypeId) : Row (w.alloc (.cells #[a, b, c, d] t)) w.heap.size 4 (fun i => if i = 0 then a else if i = 1 then b else if i = 2 then c else d) :=
  ⟨_, t, heap_alloc_new _ _, by simp, fun i hi => by
    match i, hi with
    | 0, _ => rfl
    | 1, _ => rfl
    | 2, _ => rfl
    | 3, _ => rfl⟩
theorem get4 {w : World} {B : Nat} {a b c d : Value} (r : Row w B 4 (fun i => if i = 0 then a else if i = 1 then b else if i = 2 then c else d)) : w.cell? ⟨B, 0, none⟩ = some a ∧ w.cell? ⟨B, 1, none⟩ = some b ∧ w.cell? ⟨B, 2, none⟩ = some c ∧ w.cell? ⟨B, 3, none⟩ = some d :=
  ⟨r.cell (i := 0) (by omega), r.cell (i := 1) (by omega), r.cell (i := 2) (by omega), r.cell (i := 3) (by omega)⟩
/-- What a walker holds: its table, its short ways, its hits. -/
structure KD where
  B : BD
  n : Nat
  F : Nat → Nat → Int
  h : Int
abbrev KD.zero : KD := ⟨BD.zero, 0, fun _ _ => 0, 0⟩
structure KV where
  b : BV
  a : Option Addr
  q : Nat
abbrev KV.zero : KV := ⟨BV.zero, none, 0⟩
abbrev KV.cells (v : KV) (D : KD) : Array Value := #[.slice v.b.a1 D.B.n v.b.c1, .slice v.b.a2 D.B.D.n v.b.c2, .slice v.a D.n v.q, .int .i64 D.h]
abbrev KV.val (v : KV) (D : KD) : Value := .agg (v.cells D)
abbrev kb (v : KV) (D : KD) : Nat → Value := fun i => if i = 0 then .slice v.b.a1 D.B.n v.b.c1 else if i = 1 then .slice v.b.a2 D.B.D.n v.b.c2 else if i = 2 then .slice v.a D.n v.q else .int .i64 D.h
structure WkAt (Y : Nat → Prop) (w : World) (v : KV) (D : KD) : Prop where
  t : BookAt Y w v.b D.B
  k : KAt 3 Y w v.a D.n D.F
structure WkOwn (X : Nat → Prop) (w : World) (v : KV) (D : KD) : Prop where
  ex : ∃ X1 X2 : Nat → Prop, (∀ b, X1 b → X b ∧ ¬ X2 b) ∧ (∀ b, X2 b → X b) ∧ BookOwn X1 w v.b D.B ∧ KOwn 3 X2 w v.a D.n D.F
theorem WkAt.blw {Y : Nat → Prop} {w w' : World} {v : KV} {D : KD} (h : WkAt Y w v D) (hb : Blw w w') : WkAt Y w' v D := ⟨h.t.blw hb, h.k.blw hb⟩
theorem WkAt.mod {X Y : Nat → Prop} {w w' : World} {v : KV} {D : KD} (h : WkAt Y w v D) (hb : Mod X w w') (hxy : ∀ k, Y k → ¬ X k) : WkAt Y w' v D := ⟨h.t.mod hb hxy, h.k.mod hb hxy⟩
theorem WkAt.mono {X Y : Nat → Prop} {w : World} {v : KV} {D : KD} (h : WkAt X w v D) (hxy : ∀ b, X b → Y b) : WkAt Y w v D := ⟨h.t.mono hxy, h.k.mono hxy⟩
theorem WkOwn.at {X : Nat → Prop} {w : World} {v : KV} {D : KD} (h : WkOwn X w v D) : WkAt X w v D := by
  obtain ⟨X1, X2, d1, d2, ht, hk⟩ := h.ex
  exact ⟨ht.at.mono (fun b hb => (d1 b hb).1), hk.at.mono d2⟩
theorem WkOwn.mod {X Z : Nat → Prop} {w w' : World} {v : KV} {D : KD} (h : WkOwn X w v D) (hb : Mod Z w w') (hxz : ∀ b, X b → ¬ Z b) : WkOwn X w' v D := by
  obtain ⟨X1, X2, d1, d2, ht, hk⟩ := h.ex
  exact ⟨X1, X2, d1, d2, ht.mod hb (fun b hx => hxz b (d1 b hx).1), hk.mod hb (fun b hx => hxz b (d2 b hx))⟩
theorem WkOwn.blw {X : Nat → Prop} {w w' : World} {v : KV} {D : KD} (h : WkOwn X w v D) (hb : Blw w w') : WkOwn X w' v D := h.mod (hb.mod (fun _ => False)) (fun _ _ => id)
theorem WkOwn.mono {X Y : Nat → Prop} {w : World} {v : KV} {D : KD} (h : WkOwn X w v D) (hxy : ∀ b, X b → Y b) : WkOwn Y w v D := by
  obtain ⟨X1, X2, d1, d2, ht, hk⟩ := h.ex
  exact ⟨X1, X2, fun b hb => ⟨hxy b (d1 b hb).1, (d1 b hb).2⟩, fun b hb => hxy b (d2 b hb), ht, hk⟩
theorem WkOwn.zero (X : Nat → Prop) (w : World) : WkOwn X w KV.zero KD.zero := ⟨fun _ => False, fun _ => False, fun _ h => h.elim, fun _ h => h.elim, BookOwn.zero _ _, KOwn.nil _ _ _ _ _⟩
def KD.marked (D : KD) (k : Int) : KD := ⟨D.B.marked k, D.n, mkK 3 (k + D.B.total), D.h⟩
def KD.total (D : KD) : Nat := D.B.total + 3 * D.n
def KD.small (D : KD) : Prop := D.B.n + (D.B.D.n + D.B.D.tot) ≤ 1048576 ∧ D.n ≤ 1048576
set_option maxHeartbeats 1600000 in
theorem eqWalker_same (v u : KV) (D : KD) {X Y : Nat → Prop} (w : World) (h1 : WkAt X w v D) (h2 : WkAt Y w u D) :
    Calls Try.prog 60 #[v.val D, u.val D] w fun e w' => e = .returned (.bool true) ∧ Blw w w' := by
  have hb0 : Blw w ((w.alloc (.cells #[.slice v.b.a1 D.B.n v.b.c1, .slice v.b.a2 D.B.D.n v.b.c2, .slice v.a D.n v.q, .int .i64 D.h] 32)).alloc (.cells #[.slice u.b.a1 D.B.n u.b.c1, .slice u.b.a2 D.B.D.n u.b.c2, .slice u.a D.n u.q, .int .i64 D.h] 32)) := ((Blw.refl _).alloc _).alloc _
  have H1 : Hid (WkAt X ((w.alloc (.cells #[.slice v.b.a1 D.B.n v.b.c1, .slice v.b.a2 D.B.D.n v.b.c2, .slice v.a D.n v.q, .int .i64 D.h] 32)).alloc (.cells #[.slice u.b.a1 D.B.n u.b.c1, .slice u.b.a2 D.B.D.n u.b.c2, .slice u.a D.n u.q, .int .i64 D.h] 32)) v D) := h1.blw hb0
  have H2 : Hid (WkAt Y ((w.alloc (.cells #[.slice v.b.a1 D.B.n v.b.c1, .slice v.b.a2 D.B.D.n v.b.c2, .slice v.a D.n v.q, .int .i64 D.h] 32)).alloc (.cells #[.slice u.b.a1 D.B.n u.b.c1, .slice u.b.a2 D.B.D.n u.b.c2, .slice u.a D.n u.q, .int .i64 D.h] 32)) u D) := h2.blw hb0
  have R1 : Hid (Row ((w.alloc (.cells #[.slice v.b.a1 D.B.n v.b.c1, .slice v.b.a2 D.B.D.n v.b.c2, .slice v.a D.n v.q, .int .i64 D.h] 32)).alloc (.cells #[.slice u.b.a1 D.B.n u.b.c1, .slice u.b.a2 D.B.D.n u.b.c2, .slice u.a D.n u.q, .int .i64 D.h] 32)) w.heap.size 4 (kb v D)) := (box4 w _ _ _ _ 32).blw ((Blw.refl _).alloc _)
  have r2 := box4 (w.alloc (.cells #[.slice v.b.a1 D.B.n v.b.c1, .slice v.b.a2 D.B.D.n v.b.c2, .slice v.a D.n v.q, .int .i64 D.h] 32)) (.slice u.b.a1 D.B.n u.b.c1) (.slice u.b.a2 D.B.D.n u.b.c2) (.slice u.a D.n u.q) (.int .i64 D.h) 32
  rw [World.size_alloc] at r2
  have R2 : Hid (Row ((w.alloc (.cells #[.slice v.b.a1 D.B.n v.b.c1, .slice v.b.a2 D.B.D.n v.b.c2, .slice v.a D.n v.q, .int .i64 D.h] 32)).alloc (.cells #[.slice u.b.a1 D.B.n u.b.c1, .slice u.b.a2 D.B.D.n u.b.c2, .slice u.a D.n u.q, .int .i64 D.h] 32)) (w.heap.size + 1) 4 (kb u D)) := r2
  have HB : Hid (Blw w ((w.alloc (.cells #[.slice v.b.a1 D.B.n v.b.c1, .slice v.b.a2 D.B.D.n v.b.c2, .slice v.a D.n v.q, .int .i64 D.h] 32)).alloc (.cells #[.slice u.b.a1 D.B.n u.b.c1, .slice u.b.a2 D.B.D.n u.b.c2, .slice u.a D.n u.q, .int .i64 D.h] 32))) := hb0
  clear h1 h2 r2 hb0
  go_enter Try.func60, Try.ntmps60
  obtain ⟨p0, p1, p2, p3⟩ := get4 R1.out
  obtain ⟨q0, q1, q2, q3⟩ := get4 R2.out
  go_wp2_with fail
  clear p0 p1 p2 p3 q0 q1 q2 q3
  refine (eqBook_same v.b u.b D.B _ H1.out.t H2.out.t).mono ?_
  rintro e w1 ⟨rfl, hb1⟩
  replace H1 : Hid (WkAt X w1 v D) := H1.out.blw hb1
  replace H2 : Hid (WkAt Y w1 u D) := H2.out.blw hb1
  replace R1 : Hid (Row w1 w.heap.size 4 (kb v D)) := R1.out.blw hb1
  replace R2 : Hid (Row w1 (w.heap.size + 1) 4 (kb u D)) := R2.out.blw hb1
  replace HB : Hid (Blw w w1) := HB.out.trans hb1
  clear hb1
  obtain ⟨p0, p1, p2, p3⟩ := get4 R1.out
  obtain ⟨q0, q1, q2, q3⟩ := get4 R2.out
  go_wp2_with fail
  clear p0 p1 p2 p3 q0 q1 q2 q3
  refine (eqSh_same v.a u.a v.q u.q D.n D.F _ H1.out.k H2.out.k).mono ?_
  rintro e w2 ⟨rfl, hb1⟩
  replace R1 : Hid (Row w2 w.heap.size 4 (kb v D)) := R1.out.blw hb1
  replace R2 : Hid (Row w2 (w.heap.size + 1) 4 (kb u D)) := R2.out.blw hb1
  replace HB : Hid (Blw w w2) := HB.out.trans hb1
  have hh : (D.h != D.h) = false := by simp
  clear hb1 H1 H2
  obtain ⟨p0, p1, p2, p3⟩ := get4 R1.out
  obtain ⟨q0, q1, q2, q3⟩ := get4 R2.out
  clear R1 R2
  go_wp2
  go_ret
  exact ⟨rfl, HB.out⟩
set_option maxHeartbeats 1600000 in
theorem markWalker_any (v : KV) (D : KD) (X : Nat → Prop) (w : World) (hS : D.small) (hX : ∀ b, X b → b < w.heap.size) (h : WkOwn X w v D) :
    Calls Try.prog 64 #[v.val D, .int .i64 1] w fun e w' => e = .returned (.int .i64 (1 + D.total)) ∧ WkOwn X w' v (D.marked 1) ∧ Mod X w w' := by
  obtain ⟨X1, X2, d1, d2, ht, hk⟩ := h.ex
  have hA : Blw w (w.alloc (.cells #[.slice v.b.a1 D.B.n v.b.c1, .slice v.b.a2 D.B.D.n v.b.c2, .slice v.a D.n v.q, .int .i64 D.h] 32)) := (Blw.refl _).alloc _
  have HT : Hid (BookOwn X1 (w.alloc (.cells #[.slice v.b.a1 D.B.n v.b.c1, .slice v.b.a2 D.B.D.n v.b.c2, .slice v.a D.n v.q, .int .i64 D.h] 32)) v.b D.B) := ht.blw hA
  have HK : Hid (KOwn 3 X2 (w.alloc (.cells #[.slice v.b.a1 D.B.n v.b.c1, .slice v.b.a2 D.B.D.n v.b.c2, .slice v.a D.n v.q, .int .i64 D.h] 32)) v.a D.n D.F) := hk.blw hA
  have R1 : Hid (Row (w.alloc (.cells #[.slice v.b.a1 D.B.n v.b.c1, .slice v.b.a2 D.B.D.n v.b.c2, .slice v.a D.n v.q, .int .i64 D.h] 32)) w.heap.size 4 (kb v D)) := box4 w _ _ _ _ 32
  have HM : Hid (Mod X w (w.alloc (.cells #[.slice v.b.a1 D.B.n v.b.c1, .slice v.b.a2 D.B.D.n v.b.c2, .slice v.a D.n v.q, .int .i64 D.h] 32))) := hA.mod _
  have hl : D.B.total ≤ 2097152 := by have := hS.1; unfold BD.total; omega
  have hn := hS.2
  clear h ht hk hA
  go_enter Try.func64, Try.ntmps64
  obtain ⟨p0, p1, p2, p3⟩ := get4 R1.out
  go_wp2_with fail
  clear p0 p1 p2 p3
  refine (markBook_any v.b D.B X1 _ hS.1 (fun b hb => by have := hX b (d1 b hb).1; simp; omega) HT.out).mono ?_
  rintro e w1 ⟨rfl, ht1, hm1⟩
  have R2 := R1.out.mod hm1 (fun hh => by have := hX _ (d1 _ hh).1; omega)
  have HK1 : Hid (KOwn 3 X2 w1 v.a D.n D.F) := HK.out.mod hm1 (fun x hx hh => (d1 x hh).2 hx)
  have HT1 : Hid (BookOwn X1 w1 v.b (D.B.marked 1)) := ht1
  replace HM : Hid (Mod X w w1) := HM.out.trans (hm1.mono (fun x hx => (d1 x hx).1))
  clear ht1 hm1 HT HK R1
  obtain ⟨p0, p1, p2, p3⟩ := get4 R2
  clear R2
  go_wp2_with fail
  clear p0 p1 p2 p3
  refine (markSh_any v.a v.q D.n D.F X2 (1 + D.B.total) _ (by omega) (by omega) HK1.out).mono ?_
  rintro e w2 ⟨rfl, hk2, hm2⟩
  have HT2 : Hid (BookOwn X1 w2 v.b (D.B.marked 1)) := HT1.out.mod hm2 (fun x hx hh => (d1 x hx).2 hh)
  replace HM : Hid (Mod X w w2) := HM.out.trans (hm2.mono d2)
  have HK2 : Hid (KOwn 3 X2 w2 v.a D.n (mkK 3 (1 + D.B.total))) := hk2
  clear hk2 hm2 HT1 HK1
  go_wp2
  go_ret
  exact ⟨ret_int (by unfold KD.total; omega), ⟨X1, X2, d1, d2, HT2.out, HK2.out⟩, HM.out⟩
set_option maxHeartbeats 1600000 in
theorem heldWalker_any (v : KV) (D : KD) (X : Nat → Prop) (w : World) (hS : D.small) (h : WkOwn X w v (D.marked 1)) :
    Calls Try.prog 66 #[v.val D, .int .i64 1] w fun e w' => e = .returned (.int .i64 (1 + D.total)) ∧ Blw w w' := by
  obtain ⟨X1, X2, d1, d2, ht, hk⟩ := h.ex
  have hA : Blw w (w.alloc (.cells #[.slice v.b.a1 D.B.n v.b.c1, .slice v.b.a2 D.B.D.n v.b.c2, .slice v.a D.n v.q, .int .i64 D.h] 32)) := (Blw.refl _).alloc _
  have HT : Hid (BookOwn X1 (w.alloc (.cells #[.slice v.b.a1 D.B.n v.b.c1, .slice v.b.a2 D.B.D.n v.b.c2, .slice v.a D.n v.q, .int .i64 D.h] 32)) v.b (D.B.marked 1)) := ht.blw hA
  have HK : Hid (KOwn 3 X2 (w.alloc (.cells #[.slice v.b.a1 D.B.n v.b.c1, .slice v.b.a2 D.B.D.n v.b.c2, .slice v.a D.n v.q, .int .i64 D.h] 32)) v.a D.n (mkK 3 (1 + D.B.total))) := hk.blw hA
  have R1 : Hid (Row (w.alloc (.cells #[.slice v.b.a1 D.B.n v.b.c1, .slice v.b.a2 D.B.D.n v.b.c2, .slice v.a D.n v.q, .int .i64 D.h] 32)) w.heap.size 4 (kb v D)) := box4 w _ _ _ _ 32
  have HB : Hid (Blw w (w.alloc (.cells #[.slice v.b.a1 D.B.n v.b.c1, .slice v.b.a2 D.B.D.n v.b.c2, .slice v.a D.n v.q, .int .i64 D.h] 32))) := hA
  have hl : D.B.total ≤ 2097152 := by have := hS.1; unfold BD.total; omega
  have hn := hS.2
  clear h ht hk hA
  go_enter Try.func66, Try.ntmps66
  obtain ⟨p0, p1, p2, p3⟩ := get4 R1.out
  go_wp2_with fail
  clear p0 p1 p2 p3
  refine (heldBook_any v.b D.B X1 _ hS.1 HT.out).mono ?_
  rintro e w1 ⟨rfl, hb1⟩
  have R2 := R1.out.blw hb1
  replace HK : Hid (KOwn 3 X2 w1 v.a D.n (mkK 3 (1 + D.B.total))) := HK.out.blw hb1
  replace HB : Hid (Blw w w1) := HB.out.trans hb1
  clear hb1 HT R1
  obtain ⟨p0, p1, p2, p3⟩ := get4 R2
  have k1 : ¬ (1 + (D.B.total : Int) < 0) := by omega
  clear R2
  go_wp2_with fail
  clear p0 p1 p2 p3
  refine (heldSh_any v.a v.q D.n X2 (1 + D.B.total) _ (by omega) (by omega) HK.out).mono ?_
  rintro e w2 ⟨rfl, hb2⟩
  replace HB : Hid (Blw w w2) := HB.out.trans hb2
  have k2 : ¬ (1 + (D.B.total : Int) + 3 * (D.n : Int) < 0) := by omega
  clear hb2 HK k1
  go_wp2
  go_ret
  exact ⟨ret_int (by unfold KD.total; omega), HB.out⟩
end Go.Proofs.Ytbpdopcdhnemfaa
/- Steps that are right: the program's and the model's. -/
namespace Go.Proofs.Ytbpdopcdhnemfaa
open Go.RowKit
set_option linter.unusedSimpArgs false
set_option linter.unusedVariables false
def rightS (k a g y : Int) : Prop := pgOK a ∧ ((k = 2 ∧ pgOK g ∧ mayOK y) ∨ ((k = 1 ∨ k = 4) ∧ g = 0 ∧ mayOK y) ∨ (k = 3 ∧ g = 0 ∧ y = 0))
set_option maxHeartbeats 3200000 in
theorem isStep_any (k a g y : Int) (w : World) : Calls Try.prog 97 #[.agg #[.int .i64 k, .int .i64 a, .int .i64 g, .int .i64 y]] w fun e w' => ∃ r, e = .returned (.bool r) ∧ (r = true ↔ rightS k a g y) ∧ Blw w w' := by
  have HB : Hid (Blw w (w.alloc (.cells #[.int .i64 k, .int .i64 a, .int .i64 g, .int .i64 y] 42))) := (Blw.refl _).alloc _
  have hr := box4 w (.int .i64 k) (.int .i64 a) (.int .i64 g) (.int .i64 y) 42
  obtain ⟨b0, b1, b2, b3⟩ := get4 hr
  clear hr
  go_enter Try.func97, Try.ntmps97
  go_wp2_with fail
  generalize w.alloc (.cells #[.int .i64 k, .int .i64 a, .int .i64 g, .int .i64 y] 42) = w0 at *
  refine (isPlace_any a _).mono ?_
  rintro e w0 ⟨r, rfl, hr, rfl⟩
  have HT : Hid (r = true ↔ pgOK a) := hr
  clear hr
  cases r
  · have HN : Hid (¬ pgOK a) := fun q => by have := HT.out.2 q; simp at this
    clear HT
    go_wp2
    go_ret
    exact ⟨false, rfl, iff_f (fun q => HN.out q.1), HB.out⟩
  · have HY : Hid (pgOK a) := HT.out.1 (by first | rfl | trivial)
    clear HT
    have HA : Hid (pgOK a) := HY.out
    clear HY
    by_cases k2 : k = 2
    · subst k2
      go_wp2_with fail
      refine (isPage_any g _).mono ?_
      rintro e w0 ⟨r, rfl, hr, rfl⟩
      have HT : Hid (r = true ↔ pgOK g) := hr
      clear hr
      cases r
      · have HN : Hid (¬ pgOK g) := fun q => by have := HT.out.2 q; simp at this
        clear HT
        go_wp2
        go_ret
        exact ⟨false, rfl, iff_f (fun q => HN.out (by rcases q.2 with h | h | h <;> first | exact h.2.1 | (exfalso; omega))), HB.out⟩
      · have HY : Hid (pgOK g) := HT.out.1 (by first | rfl | trivial)
        clear HT
        have HP : Hid (pgOK g) := HY.out
        clear HY
        go_wp2_with fail
        refine (isMay_any y _).mono ?_
        rintro e w0 ⟨r, rfl, hr, rfl⟩
        have HT : Hid (r = true ↔ mayOK y) := hr
        clear hr
        cases r
        · have HN : Hid (¬ mayOK y) := fun q => by have := HT.out.2 q; simp at this
          clear HT
          go_wp2
          go_ret
          exact ⟨false, rfl, iff_f (fun q => HN.out (by rcases q.2 with h | h | h <;> first | exact h.2.2 | (exfalso; omega))), HB.out⟩
        · have HY : Hid (mayOK y) := HT.out.1 (by first | rfl | trivial)
          clear HT
          go_wp2
          go_ret
          exact ⟨true, rfl, iff_t (⟨HA.out, Or.inl ⟨rfl, HP.out, HY.out⟩⟩), HB.out⟩
    · have d2 : (k == 2) = false := by simp [k2]
      by_cases k1 : k = 1
      · subst k1
        clear k2 d2
        by_cases g0 : g = 0
        · subst g0
          go_wp2_with fail
          refine (isMay_any y _).mono ?_
          rintro e w0 ⟨r, rfl, hr, rfl⟩
          have HT : Hid (r = true ↔ mayOK y) := hr
          clear hr
          cases r
          · have HN : Hid (¬ mayOK y) := fun q => by have := HT.out.2 q; simp at this
            clear HT
            go_wp2
            go_ret
            exact ⟨false, rfl, iff_f (fun q => HN.out (by rcases q.2 with h | h | h <;> first | exact h.2.2 | (exfalso; omega))), HB.out⟩
          · have HY : Hid (mayOK y) := HT.out.1 (by first | rfl | trivial)
            clear HT
            go_wp2
            go_ret
            exact ⟨true, rfl, iff_t (⟨HA.out, Or.inr (Or.inl ⟨Or.inl rfl, rfl, HY.out⟩)⟩), HB.out⟩
        · have dg : (g == 0) = false := by simp [g0]
          have HN : Hid (¬ g = 0) := g0
          clear g0
          go_wp2
          go_ret
          exact ⟨false, rfl, iff_f (fun q => HN.out (by rcases q.2 with h | h | h <;> first | exact h.2.1 | (exfalso; omega))), HB.out⟩
      · have d1 : (k == 1) = false := by simp [k1]
        by_cases k4 : k = 4
        · subst k4
          clear k2 k1 d2 d1
          by_cases g0 : g = 0
          · subst g0
            go_wp2_with fail
            refine (isMay_any y _).mono ?_
            rintro e w0 ⟨r, rfl, hr, rfl⟩
            have HT : Hid (r = true ↔ mayOK y) := hr
            clear hr
            cases r
            · have HN : Hid (¬ mayOK y) := fun q => by have := HT.out.2 q; simp at this
              clear HT
              go_wp2
              go_ret
              exact ⟨false, rfl, iff_f (fun q => HN.out (by rcases q.2 with h | h | h <;> first | exact h.2.2 | (exfalso; omega))), HB.out⟩
            · have HY : Hid (mayOK y) := HT.out.1 (by first | rfl | trivial)
              clear HT
              go_wp2
              go_ret
              exact ⟨true, rfl, iff_t (⟨HA.out, Or.inr (Or.inl ⟨Or.inr rfl, rfl, HY.out⟩)⟩), HB.out⟩
          · have dg : (g == 0) = false := by simp [g0]
            have HN : Hid (¬ g = 0) := g0
            clear g0
            go_wp2
            go_ret
            exact ⟨false, rfl, iff_f (fun q => HN.out (by rcases q.2 with h | h | h <;> first | exact h.2.1 | (exfalso; omega))), HB.out⟩
        · have d4 : (k == 4) = false := by simp [k4]
          by_cases k3 : k = 3
          · subst k3
            clear k2 k1 k4 d2 d1 d4
            by_cases g0 : g = 0
            · subst g0
              by_cases y0 : y = 0
              · subst y0
                go_wp2
                go_ret
                exact ⟨true, rfl, iff_t ⟨HA.out, Or.inr (Or.inr ⟨rfl, rfl, rfl⟩)⟩, HB.out⟩
              · have dy : (y == 0) = false := by simp [y0]
                have HN : Hid (¬ y = 0) := y0
                clear y0
                go_wp2
                go_ret
                exact ⟨false, rfl, iff_f (fun q => HN.out (by rcases q.2 with h | h | h <;> first | exact h.2.2 | (exfalso; omega))), HB.out⟩
            · have dg : (g == 0) = false := by simp [g0]
              have HN : Hid (¬ g = 0) := g0
              clear g0
              go_wp2
              go_ret
              exact ⟨false, rfl, iff_f (fun q => HN.out (by rcases q.2 with h | h | h <;> first | exact h.2.1 | (exfalso; omega))), HB.out⟩
          · have d3 : (k == 3) = false := by simp [k3]
            have HN : Hid (¬ rightS k a g y) := fun q => by rcases q.2 with h | h | h <;> omega
            clear k2 k1 k4 k3
            go_wp2
            go_ret
            exact ⟨false, rfl, iff_f HN.out, HB.out⟩
set_option maxHeartbeats 3200000 in
theorem l7Right_any (k a g y : Int) (w : World) : Calls Try.prog 85 #[.agg #[.int .i64 k, .int .i64 a, .int .i64 g, .int .i64 y]] w fun e w' => ∃ r, e = .returned (.bool r) ∧ (r = true ↔ rightS k a g y) ∧ Blw w w' := by
  have HB : Hid (Blw w (w.alloc (.cells #[.int .i64 k, .int .i64 a, .int .i64 g, .int .i64 y] 42))) := (Blw.refl _).alloc _
  have hr := box4 w (.int .i64 k) (.int .i64 a) (.int .i64 g) (.int .i64 y) 42
  obtain ⟨b0, b1, b2, b3⟩ := get4 hr
  clear hr
  go_enter Try.func85, Try.ntmps85
  go_wp2_with fail
  generalize w.alloc (.cells #[.int .i64 k, .int .i64 a, .int .i64 g, .int .i64 y] 42) = w0 at *
  refine (l1In_any y 1 3 _).mono ?_
  rintro e w0 ⟨rm, rfl, hm, rfl⟩
  have HM : Hid (rm = true ↔ mayOK y) := hm
  clear hm
  by_cases k1 : k = 1
  · subst k1
    go_wp2_with fail
    refine (l6At_any a _).mono ?_
    rintro e w0 ⟨r, rfl, hr, rfl⟩
    have HT : Hid (r = true ↔ pgOK a) := hr
    clear hr
    cases r
    · have HN : Hid (¬ pgOK a) := fun q => by have := HT.out.2 q; simp at this
      clear HT
      go_wp2
      go_ret
      exact ⟨false, rfl, iff_f (fun q => HN.out q.1), HB.out⟩
    · have HY : Hid (pgOK a) := HT.out.1 (by first | rfl | trivial)
      clear HT
      have HA : Hid (pgOK a) := HY.out
      clear HY
      by_cases g0 : g = 0
      · subst g0
        cases rm
        · have HN : Hid (¬ mayOK y) := fun q => by have := HM.out.2 q; simp at this
          go_wp2
          go_ret
          exact ⟨false, rfl, iff_f (fun q => HN.out (by rcases q.2 with h | h | h <;> first | exact h.2.2 | (exfalso; omega))), HB.out⟩
        · have HY : Hid (mayOK y) := HM.out.1 (by first | rfl | trivial)
          go_wp2
          go_ret
          exact ⟨true, rfl, iff_t (⟨HA.out, Or.inr (Or.inl ⟨Or.inl rfl, rfl, HY.out⟩)⟩), HB.out⟩
      · have dg : (g == 0) = false := by simp [g0]
        have HN : Hid (¬ g = 0) := g0
        clear g0
        go_wp2
        go_ret
        exact ⟨false, rfl, iff_f (fun q => HN.out (by rcases q.2 with h | h | h <;> first | exact h.2.1 | (exfalso; omega))), HB.out⟩
  · have d1 : (k == 1) = false := by simp [k1]
    by_cases k4 : k = 4
    · subst k4
      clear k1 d1
      go_wp2_with fail
      refine (l6At_any a _).mono ?_
      rintro e w0 ⟨r, rfl, hr, rfl⟩
      have HT : Hid (r = true ↔ pgOK a) := hr
      clear hr
      cases r
      · have HN : Hid (¬ pgOK a) := fun q => by have := HT.out.2 q; simp at this
        clear HT
        go_wp2
        go_ret
        exact ⟨false, rfl, iff_f (fun q => HN.out q.1), HB.out⟩
      · have HY : Hid (pgOK a) := HT.out.1 (by first | rfl | trivial)
        clear HT
        have HA : Hid (pgOK a) := HY.out
        clear HY
        by_cases g0 : g = 0
        · subst g0
          cases rm
          · have HN : Hid (¬ mayOK y) := fun q => by have := HM.out.2 q; simp at this
            go_wp2
            go_ret
            exact ⟨false, rfl, iff_f (fun q => HN.out (by rcases q.2 with h | h | h <;> first | exact h.2.2 | (exfalso; omega))), HB.out⟩
          · have HY : Hid (mayOK y) := HM.out.1 (by first | rfl | trivial)
            go_wp2
            go_ret
            exact ⟨true, rfl, iff_t (⟨HA.out, Or.inr (Or.inl ⟨Or.inr rfl, rfl, HY.out⟩)⟩), HB.out⟩
        · have dg : (g == 0) = false := by simp [g0]
          have HN : Hid (¬ g = 0) := g0
          clear g0
          go_wp2
          go_ret
          exact ⟨false, rfl, iff_f (fun q => HN.out (by rcases q.2 with h | h | h <;> first | exact h.2.1 | (exfalso; omega))), HB.out⟩
    · have d4 : (k == 4) = false := by simp [k4]
      by_cases k2 : k = 2
      · subst k2
        clear k1 k4 d1 d4
        go_wp2_with fail
        refine (l6At_any a _).mono ?_
        rintro e w0 ⟨r, rfl, hr, rfl⟩
        have HT : Hid (r = true ↔ pgOK a) := hr
        clear hr
        cases r
        · have HN : Hid (¬ pgOK a) := fun q => by have := HT.out.2 q; simp at this
          clear HT
          go_wp2
          go_ret
          exact ⟨false, rfl, iff_f (fun q => HN.out q.1), HB.out⟩
        · have HY : Hid (pgOK a) := HT.out.1 (by first | rfl | trivial)
          clear HT
          have HA : Hid (pgOK a) := HY.out
          clear HY
          go_wp2_with fail
          refine (l1In_any g 0 15 _).mono ?_
          rintro e w0 ⟨r, rfl, hr, rfl⟩
          have HT : Hid (r = true ↔ (0 ≤ g ∧ g ≤ 15)) := hr
          clear hr
          cases r
          · have HN : Hid (¬ (0 ≤ g ∧ g ≤ 15)) := fun q => by have := HT.out.2 q; simp at this
            clear HT
            go_wp2
            go_ret
            exact ⟨false, rfl, iff_f (fun q => HN.out (by rcases q.2 with h | h | h <;> first | exact h.2.1 | (exfalso; omega))), HB.out⟩
          · have HY : Hid ((0 ≤ g ∧ g ≤ 15)) := HT.out.1 (by first | rfl | trivial)
            clear HT
            cases rm
            · have HN : Hid (¬ mayOK y) := fun q => by have := HM.out.2 q; simp at this
              go_wp2
              go_ret
              exact ⟨false, rfl, iff_f (fun q => HN.out (by rcases q.2 with h | h | h <;> first | exact h.2.2 | (exfalso; omega))), HB.out⟩
            · have HY2 : Hid (mayOK y) := HM.out.1 (by first | rfl | trivial)
              go_wp2
              go_ret
              exact ⟨true, rfl, iff_t (⟨HA.out, Or.inl ⟨rfl, HY.out, HY2.out⟩⟩), HB.out⟩
      · have d2 : (k == 2) = false := by simp [k2]
        by_cases k3 : k = 3
        · subst k3
          clear k2 k1 k4 d2 d1 d4
          go_wp2_with fail
          refine (l6At_any a _).mono ?_
          rintro e w0 ⟨r, rfl, hr, rfl⟩
          have HT : Hid (r = true ↔ pgOK a) := hr
          clear hr
          cases r
          · have HN : Hid (¬ pgOK a) := fun q => by have := HT.out.2 q; simp at this
            clear HT
            go_wp2
            go_ret
            exact ⟨false, rfl, iff_f (fun q => HN.out q.1), HB.out⟩
          · have HY : Hid (pgOK a) := HT.out.1 (by first | rfl | trivial)
            clear HT
            have HA : Hid (pgOK a) := HY.out
            clear HY
            by_cases g0 : g = 0
            · subst g0
              by_cases y0 : y = 0
              · subst y0
                go_wp2
                go_ret
                exact ⟨true, rfl, iff_t (⟨HA.out, Or.inr (Or.inr ⟨rfl, rfl, rfl⟩)⟩), HB.out⟩
              · have dy : (y == 0) = false := by simp [y0]
                have HN : Hid (¬ y = 0) := y0
                clear y0
                go_wp2
                go_ret
                exact ⟨false, rfl, iff_f (fun q => HN.out (by rcases q.2 with h | h | h <;> first | exact h.2.2 | (exfalso; omega))), HB.out⟩
            · have dg : (g == 0) = false := by simp [g0]
              have HN : Hid (¬ g = 0) := g0
              clear g0
              go_wp2
              go_ret
              exact ⟨false, rfl, iff_f (fun q => HN.out (by rcases q.2 with h | h | h <;> first | exact h.2.1 | (exfalso; omega))), HB.out⟩
        · have d3 : (k == 3) = false := by simp [k3]
          have HN : Hid (¬ rightS k a g y) := fun q => by rcases q.2 with h | h | h <;> omega
          clear k2 k1 k4 k3
          go_wp2
          go_ret
          exact ⟨false, rfl, iff_f (HN.out), HB.out⟩
theorem answerOf_any (x : Int) (r : Bool) (w : World) (hx : 0 ≤ x ∧ x ≤ 15) : Calls Try.prog 150 #[.int .i64 x, .bool r] w fun e w' => e = .returned (.int .i64 (if r = true then 1 + x else 0)) ∧ w' = w := by
  cases r
  · go_enter Try.func150, Try.ntmps150
    go_wp2
    go_ret
    exact ⟨by simp, rfl⟩
  · go_enter Try.func150, Try.ntmps150
    go_wp2
    go_ret
    exact ⟨by simp, rfl⟩
end Go.Proofs.Ytbpdopcdhnemfaa
/- Tables changed by a step: the program's and the model's. -/
namespace Go.Proofs.Ytbpdopcdhnemfaa
open Go.RowKit
set_option linter.unusedSimpArgs false
set_option linter.unusedVariables false
def chgO (B : BD) (k a g y : Int) (R : BD) (r : Bool) : Prop :=
  (k = 2 → chOut B a (fun _ oy => oy = 0 ∧ pgOK g ∧ mayOK y) (fun _ => g) y R r) ∧ (k = 3 → chOut B a (fun _ oy => ¬ oy = 0) (fun _ => 0) 0 R r) ∧ (k = 4 → chOut B a (fun _ oy => ¬ oy = 0 ∧ mayOK y) (fun o => o) y R r)
theorem chgO_same {B : BD} {k a g y : Int} {R R' : BD} {r r' : Bool} (hk : k = 2 ∨ k = 3 ∨ k = 4) (h : chgO B k a g y R r) (h' : chgO B k a g y R' r') : R = R' ∧ r = r' := by
  rcases hk with e | e | e
  · exact chOut_same (h.1 e) (h'.1 e)
  · exact chOut_same (h.2.1 e) (h'.2.1 e)
  · exact chOut_same (h.2.2 e) (h'.2.2 e)
theorem ch_len {B : BD} {a : Int} {P : Int → Int → Prop} {G : Int → Int} {y : Int} {R : BD} {r : Bool} (h : chOut B a P G y R r) (hr : r = true) : ∃ c p m, R = ⟨4, c, ⟨B.D.n, fun _ => 4, p, m⟩⟩ := by
  rcases h with ⟨_, ⟨q, _, rfl⟩, _⟩ | ⟨_, _, e⟩
  · exact ⟨_, _, _, rfl⟩
  · rw [e] at hr; cases hr
theorem chg_len {B : BD} {k a g y : Int} {R : BD} {r : Bool} (hk : k = 2 ∨ k = 3 ∨ k = 4) (h : chgO B k a g y R r) (hr : r = true) : ∃ c p m, R = ⟨4, c, ⟨B.D.n, fun _ => 4, p, m⟩⟩ := by
  rcases hk with e | e | e
  · exact ch_len (h.1 e) hr
  · exact ch_len (h.2.1 e) hr
  · exact ch_len (h.2.2 e) hr
set_option maxRecDepth 10000 in
set_option maxHeartbeats 3200000 in
theorem specChg_any (b : BV) (B : BD) (k a g y : Int) (Y : Nat → Prop) (w : World) (hn : B.n ≤ 1048576) (hk : k = 2 ∨ k = 3 ∨ k = 4) (h : BookAt Y w b B) :
    Calls Try.prog 91 #[b.val B, .agg #[.int .i64 k, .int .i64 a, .int .i64 g, .int .i64 y]] w (GivesB (chgO B k a g y) w) := by
  have hA1 : Blw w (w.alloc (.cells #[.slice b.a1 B.n b.c1, .slice b.a2 B.D.n b.c2] 29)) := (Blw.refl _).alloc _
  have hA2 : Blw (w.alloc (.cells #[.slice b.a1 B.n b.c1, .slice b.a2 B.D.n b.c2] 29)) ((w.alloc (.cells #[.slice b.a1 B.n b.c1, .slice b.a2 B.D.n b.c2] 29)).alloc (.cells #[.int .i64 k, .int .i64 a, .int .i64 g, .int .i64 y] 42)) := (Blw.refl _).alloc _
  have hA3 : Blw ((w.alloc (.cells #[.slice b.a1 B.n b.c1, .slice b.a2 B.D.n b.c2] 29)).alloc (.cells #[.int .i64 k, .int .i64 a, .int .i64 g, .int .i64 y] 42)) (((w.alloc (.cells #[.slice b.a1 B.n b.c1, .slice b.a2 B.D.n b.c2] 29)).alloc (.cells #[.int .i64 k, .int .i64 a, .int .i64 g, .int .i64 y] 42)).alloc (.cells #[.slice none 0 0, .slice none 0 0] 29)) := (Blw.refl _).alloc _
  have hb0 : Blw w (((w.alloc (.cells #[.slice b.a1 B.n b.c1, .slice b.a2 B.D.n b.c2] 29)).alloc (.cells #[.int .i64 k, .int .i64 a, .int .i64 g, .int .i64 y] 42)).alloc (.cells #[.slice none 0 0, .slice none 0 0] 29)) := (hA1.trans hA2).trans hA3
  have HA : Hid (BookAt Y (((w.alloc (.cells #[.slice b.a1 B.n b.c1, .slice b.a2 B.D.n b.c2] 29)).alloc (.cells #[.int .i64 k, .int .i64 a, .int .i64 g, .int .i64 y] 42)).alloc (.cells #[.slice none 0 0, .slice none 0 0] 29)) b B) := h.blw hb0
  have rA := (box2 w (.slice b.a1 B.n b.c1) (.slice b.a2 B.D.n b.c2) 29).blw (hA2.trans hA3)
  have rS := (box4 (w.alloc (.cells #[.slice b.a1 B.n b.c1, .slice b.a2 B.D.n b.c2] 29)) (.int .i64 k) (.int .i64 a) (.int .i64 g) (.int .i64 y) 42).blw hA3
  have rR := box2 ((w.alloc (.cells #[.slice b.a1 B.n b.c1, .slice b.a2 B.D.n b.c2] 29)).alloc (.cells #[.int .i64 k, .int .i64 a, .int .i64 g, .int .i64 y] 42)) (.slice none 0 0) (.slice none 0 0) 29
  simp only [World.size_alloc] at rS rR
  have hsz : (((w.alloc (.cells #[.slice b.a1 B.n b.c1, .slice b.a2 B.D.n b.c2] 29)).alloc (.cells #[.int .i64 k, .int .i64 a, .int .i64 g, .int .i64 y] 42)).alloc (.cells #[.slice none 0 0, .slice none 0 0] 29)).heap.size = w.heap.size + 1 + 1 + 1 := by simp
  clear h hA1 hA2 hA3
  go_enter Try.func91, Try.ntmps91
  obtain ⟨p0, p1⟩ := get2 rA
  obtain ⟨q0, q1, q2, q3⟩ := get4 rS
  clear rA rS
  by_cases k2 : k = 2
  · subst k2
    clear hk
    go_wp2_with fail
    clear p0 p1 q0 q1 q2 q3
    have HSZ : Hid ((((w.alloc (.cells #[.slice b.a1 B.n b.c1, .slice b.a2 B.D.n b.c2] 29)).alloc (.cells #[.int .i64 2, .int .i64 a, .int .i64 g, .int .i64 y] 42)).alloc (.cells #[.slice none 0 0, .slice none 0 0] 29)).heap.size = w.heap.size + 1 + 1 + 1) := hsz
    clear hsz
    generalize (((w.alloc (.cells #[.slice b.a1 B.n b.c1, .slice b.a2 B.D.n b.c2] 29)).alloc (.cells #[.int .i64 2, .int .i64 a, .int .i64 g, .int .i64 y] 42)).alloc (.cells #[.slice none 0 0, .slice none 0 0] 29)) = w0 at *
    refine (specMap_any b B a g y Y _ hn HA.out).mono ?_
    rintro e w1 ⟨b1, R, r, rfl, ho, hs, own, hb1⟩
    have hz := HSZ.out
    have hr := rR.blw hb1
    have hlt := hr.lt
    have FIN : Hid _ := pass_givesT (out := chgO B 2 a g y) (w := w) (W := w1) (z := w.heap.size + 1 + 1) (by omega) ⟨fun _ => ho, fun e => absurd e (by decide), fun e => absurd e (by decide)⟩ hs (hb0.trans hb1) own (fun x hx => ⟨by omega, by omega, hx.2⟩)
    obtain ⟨t0, t1⟩ := get2 hr
    have f0 := hr.frozen 0
    have f1 := hr.frozen 1
    clear HA rR hb0 hb1 own ho hs hr hz hlt HSZ
    go_wp2
    exact bodyPost_ret (v := .tuple #[b1.val R, .bool r]) (by simp [results, Try.results91, go_sem, t0, t1]) rfl FIN.out
  have d2 : (k == 2) = false := by simp [k2]
  by_cases k3 : k = 3
  · subst k3
    clear hk
    go_wp2_with fail
    clear p0 p1 q0 q1 q2 q3
    have HSZ : Hid ((((w.alloc (.cells #[.slice b.a1 B.n b.c1, .slice b.a2 B.D.n b.c2] 29)).alloc (.cells #[.int .i64 3, .int .i64 a, .int .i64 g, .int .i64 y] 42)).alloc (.cells #[.slice none 0 0, .slice none 0 0] 29)).heap.size = w.heap.size + 1 + 1 + 1) := hsz
    clear hsz
    generalize (((w.alloc (.cells #[.slice b.a1 B.n b.c1, .slice b.a2 B.D.n b.c2] 29)).alloc (.cells #[.int .i64 3, .int .i64 a, .int .i64 g, .int .i64 y] 42)).alloc (.cells #[.slice none 0 0, .slice none 0 0] 29)) = w0 at *
    refine (specUnmap_any b B a Y _ hn HA.out).mono ?_
    rintro e w1 ⟨b1, R, r, rfl, ho, hs, own, hb1⟩
    have hz := HSZ.out
    have hr := rR.blw hb1
    have hlt := hr.lt
    have FIN : Hid _ := pass_givesT (out := chgO B 3 a g y) (w := w) (W := w1) (z := w.heap.size + 1 + 1) (by omega) ⟨fun e => absurd e (by decide), fun _ => ho, fun e => absurd e (by decide)⟩ hs (hb0.trans hb1) own (fun x hx => ⟨by omega, by omega, hx.2⟩)
    obtain ⟨t0, t1⟩ := get2 hr
    have f0 := hr.frozen 0
    have f1 := hr.frozen 1
    clear HA rR hb0 hb1 own ho hs hr hz hlt HSZ
    go_wp2
    exact bodyPost_ret (v := .tuple #[b1.val R, .bool r]) (by simp [results, Try.results91, go_sem, t0, t1]) rfl FIN.out
  have d3 : (k == 3) = false := by simp [k3]
  by_cases k4 : k = 4
  · subst k4
    clear hk
    go_wp2_with fail
    clear p0 p1 q0 q1 q2 q3
    have HSZ : Hid ((((w.alloc (.cells #[.slice b.a1 B.n b.c1, .slice b.a2 B.D.n b.c2] 29)).alloc (.cells #[.int .i64 4, .int .i64 a, .int .i64 g, .int .i64 y] 42)).alloc (.cells #[.slice none 0 0, .slice none 0 0] 29)).heap.size = w.heap.size + 1 + 1 + 1) := hsz
    clear hsz
    generalize (((w.alloc (.cells #[.slice b.a1 B.n b.c1, .slice b.a2 B.D.n b.c2] 29)).alloc (.cells #[.int .i64 4, .int .i64 a, .int .i64 g, .int .i64 y] 42)).alloc (.cells #[.slice none 0 0, .slice none 0 0] 29)) = w0 at *
    refine (specProt_any b B a y Y _ hn HA.out).mono ?_
    rintro e w1 ⟨b1, R, r, rfl, ho, hs, own, hb1⟩
    have hz := HSZ.out
    have hr := rR.blw hb1
    have hlt := hr.lt
    have FIN : Hid _ := pass_givesT (out := chgO B 4 a g y) (w := w) (W := w1) (z := w.heap.size + 1 + 1) (by omega) ⟨fun e => absurd e (by decide), fun e => absurd e (by decide), fun _ => ho⟩ hs (hb0.trans hb1) own (fun x hx => ⟨by omega, by omega, hx.2⟩)
    obtain ⟨t0, t1⟩ := get2 hr
    have f0 := hr.frozen 0
    have f1 := hr.frozen 1
    clear HA rR hb0 hb1 own ho hs hr hz hlt HSZ
    go_wp2
    exact bodyPost_ret (v := .tuple #[b1.val R, .bool r]) (by simp [results, Try.results91, go_sem, t0, t1]) rfl FIN.out
  have d4 : (k == 4) = false := by simp [k4]
  exfalso; omega
set_option maxRecDepth 10000 in
set_option maxHeartbeats 3200000 in
theorem implChg_any (b : BV) (B : BD) (k a g y : Int) (Y : Nat → Prop) (w : World) (hY : ∀ x, Y x → x < w.heap.size) (hk : k = 2 ∨ k = 3 ∨ k = 4) (h : BookAt Y w b B) :
    Calls Try.prog 187 #[b.val B, .agg #[.int .i64 k, .int .i64 a, .int .i64 g, .int .i64 y]] w (GivesB (chgO B k a g y) w) := by
  have hA1 : Blw w (w.alloc (.cells #[.slice b.a1 B.n b.c1, .slice b.a2 B.D.n b.c2] 29)) := (Blw.refl _).alloc _
  have hA2 : Blw (w.alloc (.cells #[.slice b.a1 B.n b.c1, .slice b.a2 B.D.n b.c2] 29)) ((w.alloc (.cells #[.slice b.a1 B.n b.c1, .slice b.a2 B.D.n b.c2] 29)).alloc (.cells #[.int .i64 k, .int .i64 a, .int .i64 g, .int .i64 y] 42)) := (Blw.refl _).alloc _
  have hA3 : Blw ((w.alloc (.cells #[.slice b.a1 B.n b.c1, .slice b.a2 B.D.n b.c2] 29)).alloc (.cells #[.int .i64 k, .int .i64 a, .int .i64 g, .int .i64 y] 42)) (((w.alloc (.cells #[.slice b.a1 B.n b.c1, .slice b.a2 B.D.n b.c2] 29)).alloc (.cells #[.int .i64 k, .int .i64 a, .int .i64 g, .int .i64 y] 42)).alloc (.cells #[.slice none 0 0, .slice none 0 0] 29)) := (Blw.refl _).alloc _
  have hb0 : Blw w (((w.alloc (.cells #[.slice b.a1 B.n b.c1, .slice b.a2 B.D.n b.c2] 29)).alloc (.cells #[.int .i64 k, .int .i64 a, .int .i64 g, .int .i64 y] 42)).alloc (.cells #[.slice none 0 0, .slice none 0 0] 29)) := (hA1.trans hA2).trans hA3
  have HA : Hid (BookAt Y (((w.alloc (.cells #[.slice b.a1 B.n b.c1, .slice b.a2 B.D.n b.c2] 29)).alloc (.cells #[.int .i64 k, .int .i64 a, .int .i64 g, .int .i64 y] 42)).alloc (.cells #[.slice none 0 0, .slice none 0 0] 29)) b B) := h.blw hb0
  have rA := (box2 w (.slice b.a1 B.n b.c1) (.slice b.a2 B.D.n b.c2) 29).blw (hA2.trans hA3)
  have rS := (box4 (w.alloc (.cells #[.slice b.a1 B.n b.c1, .slice b.a2 B.D.n b.c2] 29)) (.int .i64 k) (.int .i64 a) (.int .i64 g) (.int .i64 y) 42).blw hA3
  have rR := box2 ((w.alloc (.cells #[.slice b.a1 B.n b.c1, .slice b.a2 B.D.n b.c2] 29)).alloc (.cells #[.int .i64 k, .int .i64 a, .int .i64 g, .int .i64 y] 42)) (.slice none 0 0) (.slice none 0 0) 29
  simp only [World.size_alloc] at rS rR
  have hsz : (((w.alloc (.cells #[.slice b.a1 B.n b.c1, .slice b.a2 B.D.n b.c2] 29)).alloc (.cells #[.int .i64 k, .int .i64 a, .int .i64 g, .int .i64 y] 42)).alloc (.cells #[.slice none 0 0, .slice none 0 0] 29)).heap.size = w.heap.size + 1 + 1 + 1 := by simp
  clear h hA1 hA2 hA3
  go_enter Try.func187, Try.ntmps187
  obtain ⟨p0, p1⟩ := get2 rA
  obtain ⟨q0, q1, q2, q3⟩ := get4 rS
  clear rA rS
  by_cases k2 : k = 2
  · subst k2
    clear hk
    go_wp2_with fail
    clear p0 p1 q0 q1 q2 q3
    have HSZ : Hid ((((w.alloc (.cells #[.slice b.a1 B.n b.c1, .slice b.a2 B.D.n b.c2] 29)).alloc (.cells #[.int .i64 2, .int .i64 a, .int .i64 g, .int .i64 y] 42)).alloc (.cells #[.slice none 0 0, .slice none 0 0] 29)).heap.size = w.heap.size + 1 + 1 + 1) := hsz
    clear hsz
    generalize (((w.alloc (.cells #[.slice b.a1 B.n b.c1, .slice b.a2 B.D.n b.c2] 29)).alloc (.cells #[.int .i64 2, .int .i64 a, .int .i64 g, .int .i64 y] 42)).alloc (.cells #[.slice none 0 0, .slice none 0 0] 29)) = w0 at *
    refine (implMap_any b B a g y Y _ HA.out (fun x hx => by have := hY x hx; have := HSZ.out; omega)).mono ?_
    rintro e w1 ⟨b1, R, r, rfl, ho, hs, own, hb1⟩
    have hz := HSZ.out
    have hr := rR.blw hb1
    have hlt := hr.lt
    have FIN : Hid _ := pass_givesT (out := chgO B 2 a g y) (w := w) (W := w1) (z := w.heap.size + 1 + 1) (by omega) ⟨fun _ => ho, fun e => absurd e (by decide), fun e => absurd e (by decide)⟩ hs (hb0.trans hb1) own (fun x hx => ⟨by omega, by omega, hx.2⟩)
    obtain ⟨t0, t1⟩ := get2 hr
    have f0 := hr.frozen 0
    have f1 := hr.frozen 1
    clear HA rR hb0 hb1 own ho hs hr hz hlt HSZ
    go_wp2
    exact bodyPost_ret (v := .tuple #[b1.val R, .bool r]) (by simp [results, Try.results187, go_sem, t0, t1]) rfl FIN.out
  have d2 : (k == 2) = false := by simp [k2]
  by_cases k3 : k = 3
  · subst k3
    clear hk
    go_wp2_with fail
    clear p0 p1 q0 q1 q2 q3
    have HSZ : Hid ((((w.alloc (.cells #[.slice b.a1 B.n b.c1, .slice b.a2 B.D.n b.c2] 29)).alloc (.cells #[.int .i64 3, .int .i64 a, .int .i64 g, .int .i64 y] 42)).alloc (.cells #[.slice none 0 0, .slice none 0 0] 29)).heap.size = w.heap.size + 1 + 1 + 1) := hsz
    clear hsz
    generalize (((w.alloc (.cells #[.slice b.a1 B.n b.c1, .slice b.a2 B.D.n b.c2] 29)).alloc (.cells #[.int .i64 3, .int .i64 a, .int .i64 g, .int .i64 y] 42)).alloc (.cells #[.slice none 0 0, .slice none 0 0] 29)) = w0 at *
    refine (implUnmap_any b B a Y _ HA.out (fun x hx => by have := hY x hx; have := HSZ.out; omega)).mono ?_
    rintro e w1 ⟨b1, R, r, rfl, ho, hs, own, hb1⟩
    have hz := HSZ.out
    have hr := rR.blw hb1
    have hlt := hr.lt
    have FIN : Hid _ := pass_givesT (out := chgO B 3 a g y) (w := w) (W := w1) (z := w.heap.size + 1 + 1) (by omega) ⟨fun e => absurd e (by decide), fun _ => ho, fun e => absurd e (by decide)⟩ hs (hb0.trans hb1) own (fun x hx => ⟨by omega, by omega, hx.2⟩)
    obtain ⟨t0, t1⟩ := get2 hr
    have f0 := hr.frozen 0
    have f1 := hr.frozen 1
    clear HA rR hb0 hb1 own ho hs hr hz hlt HSZ
    go_wp2
    exact bodyPost_ret (v := .tuple #[b1.val R, .bool r]) (by simp [results, Try.results187, go_sem, t0, t1]) rfl FIN.out
  have d3 : (k == 3) = false := by simp [k3]
  by_cases k4 : k = 4
  · subst k4
    clear hk
    go_wp2_with fail
    clear p0 p1 q0 q1 q2 q3
    have HSZ : Hid ((((w.alloc (.cells #[.slice b.a1 B.n b.c1, .slice b.a2 B.D.n b.c2] 29)).alloc (.cells #[.int .i64 4, .int .i64 a, .int .i64 g, .int .i64 y] 42)).alloc (.cells #[.slice none 0 0, .slice none 0 0] 29)).heap.size = w.heap.size + 1 + 1 + 1) := hsz
    clear hsz
    generalize (((w.alloc (.cells #[.slice b.a1 B.n b.c1, .slice b.a2 B.D.n b.c2] 29)).alloc (.cells #[.int .i64 4, .int .i64 a, .int .i64 g, .int .i64 y] 42)).alloc (.cells #[.slice none 0 0, .slice none 0 0] 29)) = w0 at *
    refine (implProt_any b B a y Y _ HA.out (fun x hx => by have := hY x hx; have := HSZ.out; omega)).mono ?_
    rintro e w1 ⟨b1, R, r, rfl, ho, hs, own, hb1⟩
    have hz := HSZ.out
    have hr := rR.blw hb1
    have hlt := hr.lt
    have FIN : Hid _ := pass_givesT (out := chgO B 4 a g y) (w := w) (W := w1) (z := w.heap.size + 1 + 1) (by omega) ⟨fun e => absurd e (by decide), fun e => absurd e (by decide), fun _ => ho⟩ hs (hb0.trans hb1) own (fun x hx => ⟨by omega, by omega, hx.2⟩)
    obtain ⟨t0, t1⟩ := get2 hr
    have f0 := hr.frozen 0
    have f1 := hr.frozen 1
    clear HA rR hb0 hb1 own ho hs hr hz hlt HSZ
    go_wp2
    exact bodyPost_ret (v := .tuple #[b1.val R, .bool r]) (by simp [results, Try.results187, go_sem, t0, t1]) rfl FIN.out
  have d4 : (k == 4) = false := by simp [k4]
  exfalso; omega
end Go.Proofs.Ytbpdopcdhnemfaa
