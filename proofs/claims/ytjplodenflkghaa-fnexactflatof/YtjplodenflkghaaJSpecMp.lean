/- MapPage: the model's. -/
import Derived.Test.YtjplodenflkghaaJoin5
namespace Go.Proofs.Ytjplodenflkghaa
open Go.RowKit
set_option linter.unusedSimpArgs false
set_option linter.unusedVariables false
theorem has_step {c : Nat → Int} {k : Nat} (h : ∀ k', k' < k → hasLine 4 c (k' : Int)) (h1 : hasLine 4 c (k : Int)) : ∀ k', k' < k + 1 → hasLine 4 c (k' : Int) := fun k' hk => by
  by_cases e : k' = k
  · subst e; exact h1
  · exact h k' (by omega)
set_option maxRecDepth 10000 in
set_option maxHeartbeats 6400000 in
theorem specMap_any (b : BV) (B : BD) (a g y : Int) (Y : Nat → Prop) (w : World) (hn : B.n ≤ 1048576) (h : BookAt Y w b B) :
    Calls Try.prog 115 #[b.val B, .int .i64 a, .int .i64 g, .int .i64 y] w (GivesB (chOut B a (fun _ oy => oy = 0 ∧ pgOK g ∧ mayOK y) (fun _ => g) y) w) := by
  have hA1 : Blw w (w.alloc (.cells #[.slice b.a1 B.n b.c1, .slice b.a2 B.D.n b.c2] 29)) := (Blw.refl _).alloc _
  have hA2 : Blw (w.alloc (.cells #[.slice b.a1 B.n b.c1, .slice b.a2 B.D.n b.c2] 29)) ((w.alloc (.cells #[.slice b.a1 B.n b.c1, .slice b.a2 B.D.n b.c2] 29)).alloc (.cells #[.slice none 0 0, .slice none 0 0] 29)) := (Blw.refl _).alloc _
  have HB : Hid (Blw w ((w.alloc (.cells #[.slice b.a1 B.n b.c1, .slice b.a2 B.D.n b.c2] 29)).alloc (.cells #[.slice none 0 0, .slice none 0 0] 29))) := hA1.trans hA2
  have rR := box2 (w.alloc (.cells #[.slice b.a1 B.n b.c1, .slice b.a2 B.D.n b.c2] 29)) (.slice none 0 0) (.slice none 0 0) 29
  rw [World.size_alloc] at rR
  have HR : Hid (Row ((w.alloc (.cells #[.slice b.a1 B.n b.c1, .slice b.a2 B.D.n b.c2] 29)).alloc (.cells #[.slice none 0 0, .slice none 0 0] 29)) (w.heap.size + 1) 2 (fun i => if i = 0 then .slice none 0 0 else .slice none 0 0)) := rR
  have HA : Hid (BookAt Y ((w.alloc (.cells #[.slice b.a1 B.n b.c1, .slice b.a2 B.D.n b.c2] 29)).alloc (.cells #[.slice none 0 0, .slice none 0 0] 29)) b B) := h.blw (hA1.trans hA2)
  have HA0 : Hid (Row ((w.alloc (.cells #[.slice b.a1 B.n b.c1, .slice b.a2 B.D.n b.c2] 29)).alloc (.cells #[.slice none 0 0, .slice none 0 0] 29)) w.heap.size 2 (fun i => if i = 0 then .slice b.a1 B.n b.c1 else .slice b.a2 B.D.n b.c2)) := (box2 w _ _ 29).blw hA2
  have HSZ : Hid (w.heap.size + 1 + 1 = ((w.alloc (.cells #[.slice b.a1 B.n b.c1, .slice b.a2 B.D.n b.c2] 29)).alloc (.cells #[.slice none 0 0, .slice none 0 0] 29)).heap.size) := by show _ = _; simp
  clear hA1 hA2 rR h
  go_enter Try.func115, Try.ntmps115
  obtain ⟨p0, p1⟩ := get2 HA0.out
  go_wp2_with fail
  clear p0 p1
  generalize ((w.alloc (.cells #[.slice b.a1 B.n b.c1, .slice b.a2 B.D.n b.c2] 29)).alloc (.cells #[.slice none 0 0, .slice none 0 0] 29)) = w0 at *
  refine (specGood_any b B Y _ hn HA.out).mono ?_
  rintro e w1 ⟨r, rfl, hr, hb1⟩
  have HT : Hid (r = true ↔ B.Good) := hr
  replace HSZ : Hid (w.heap.size + 1 + 1 ≤ w1.heap.size) := by have := HSZ.out; have := hb1.size; show _ ≤ _; omega
  replace HB : Hid (Blw w w1) := HB.out.trans hb1
  replace HR : Hid (Row w1 (w.heap.size + 1) 2 (fun i => if i = 0 then .slice none 0 0 else .slice none 0 0)) := HR.out.blw hb1
  replace HA0 : Hid (Row w1 w.heap.size 2 (fun i => if i = 0 then .slice b.a1 B.n b.c1 else .slice b.a2 B.D.n b.c2)) := HA0.out.blw hb1
  replace HA : Hid (BookAt Y w1 b B) := HA.out.blw hb1
  clear hr hb1
  cases r
  · have HN : Hid (¬ B.Good) := fun g => by have := HT.out.2 g; simp at this
    clear HT
    obtain ⟨t0, t1⟩ := get2 HR.out
    have f0 := HR.out.frozen 0
    have f1 := HR.out.frozen 1
    clear HR HA0
    go_wp2
    exact bodyPost_ret (v := .tuple #[BV.zero.val BD.zero, .bool false]) (by simp [results, Try.results115, go_sem, t0, t1]) rfl (zero_givesT (z := w.heap.size + 1) (by omega) (Or.inr ⟨fun q => HN.out q.1, rfl, rfl⟩) HB.out)
  have HG : Hid (B.Good) := HT.out.1 (by first | rfl | trivial)
  clear HT
  go_wp2_with fail
  refine (l6At_any a _).mono ?_
  rintro e w1 ⟨r, rfl, hr, rfl⟩
  have HT : Hid (r = true ↔ pgOK a) := hr
  clear hr
  cases r
  · have HN : Hid (¬ pgOK a) := fun g => by have := HT.out.2 g; simp at this
    clear HT
    obtain ⟨t0, t1⟩ := get2 HR.out
    have f0 := HR.out.frozen 0
    have f1 := HR.out.frozen 1
    clear HR HA0
    go_wp2
    exact bodyPost_ret (v := .tuple #[BV.zero.val BD.zero, .bool false]) (by simp [results, Try.results115, go_sem, t0, t1]) rfl (zero_givesT (z := w.heap.size + 1) (by omega) (Or.inr ⟨fun q => HN.out q.2.1, rfl, rfl⟩) HB.out)
  have H1 : Hid (pgOK a) := HT.out.1 (by first | rfl | trivial)
  clear HT
  go_wp2_with fail
  refine (l1In_any g 0 15 _).mono ?_
  rintro e w1 ⟨r, rfl, hr, rfl⟩
  have HT : Hid (r = true ↔ (0 ≤ g ∧ g ≤ 15)) := hr
  clear hr
  cases r
  · have HN : Hid (¬ (0 ≤ g ∧ g ≤ 15)) := fun g => by have := HT.out.2 g; simp at this
    clear HT
    obtain ⟨t0, t1⟩ := get2 HR.out
    have f0 := HR.out.frozen 0
    have f1 := HR.out.frozen 1
    clear HR HA0
    go_wp2
    exact bodyPost_ret (v := .tuple #[BV.zero.val BD.zero, .bool false]) (by simp [results, Try.results115, go_sem, t0, t1]) rfl (zero_givesT (z := w.heap.size + 1) (by omega) (Or.inr ⟨fun q => HN.out q.2.2.1.2.1, rfl, rfl⟩) HB.out)
  have H2 : Hid (pgOK g) := HT.out.1 (by first | rfl | trivial)
  clear HT
  go_wp2_with fail
  refine (l1In_any y 1 3 _).mono ?_
  rintro e w1 ⟨r, rfl, hr, rfl⟩
  have HT : Hid (r = true ↔ (1 ≤ y ∧ y ≤ 3)) := hr
  clear hr
  cases r
  · have HN : Hid (¬ (1 ≤ y ∧ y ≤ 3)) := fun g => by have := HT.out.2 g; simp at this
    clear HT
    obtain ⟨t0, t1⟩ := get2 HR.out
    have f0 := HR.out.frozen 0
    have f1 := HR.out.frozen 1
    clear HR HA0
    go_wp2
    exact bodyPost_ret (v := .tuple #[BV.zero.val BD.zero, .bool false]) (by simp [results, Try.results115, go_sem, t0, t1]) rfl (zero_givesT (z := w.heap.size + 1) (by omega) (Or.inr ⟨fun q => HN.out q.2.2.1.2.2, rfl, rfl⟩) HB.out)
  have H3 : Hid (mayOK y) := HT.out.1 (by first | rfl | trivial)
  clear HT
  obtain ⟨n, c, ⟨kn, len, p, m⟩⟩ := B
  obtain ⟨a1, a2, q1, q2⟩ := b
  have hn4 : n = 4 := HG.out.n
  subst hn4
  have hk4 : kn ≤ 4 := HG.out.k.2
  have hk1 : 0 < kn := HG.out.k.1
  simp only [BV.val] at *
  obtain ⟨x, hx, hx16⟩ : ∃ x : Nat, a = x ∧ x < 16 := ⟨a.toNat, by have := H1.out; unfold pgOK at this; omega, by have := H1.out; unfold pgOK at this; omega⟩
  subst hx
  have HN0 : Hid (0 ≤ lfP c m x) := lf_nonneg HG.out hx16
  obtain ⟨p0, p1⟩ := get2 HA0.out
  have hfm := fieldMay (lfP c p x) (lfP c m x)
  go_wp2_with fail
  clear p0 p1
  refine (l6Find_any ⟨a1, a2, q1, q2⟩ c kn len p m x Y _ HG.out hx16 HA.out).mono ?_
  rintro e w2 ⟨rfl, hb2⟩
  replace HB : Hid (Blw w w2) := HB.out.trans hb2
  replace HSZ : Hid (w.heap.size + 1 + 1 ≤ w2.heap.size) := by have := HSZ.out; have := hb2.size; show _ ≤ _; omega
  replace HR : Hid (Row w2 (w.heap.size + 1) 2 (fun i => if i = 0 then .slice none 0 0 else .slice none 0 0)) := HR.out.blw hb2
  replace HA0 : Hid (Row w2 w.heap.size 2 (fun i => if i = 0 then .slice a1 4 q1 else .slice a2 kn q2)) := HA0.out.blw hb2
  replace HA : Hid (BookAt Y w2 ⟨a1, a2, q1, q2⟩ ⟨4, c, ⟨kn, len, p, m⟩⟩) := HA.out.blw hb2
  clear hb2
  by_cases h0 : 0 < lfP c m x
  · have HN : Hid (0 < lfP c m x) := h0
    have d1 : decide (lfP c m x > 0) = true := by simp; omega
    clear h0
    obtain ⟨t0, t1⟩ := get2 HR.out
    have f0 := HR.out.frozen 0
    have f1 := HR.out.frozen 1
    clear HR HA0
    go_wp2
    exact bodyPost_ret (v := .tuple #[BV.zero.val BD.zero, .bool false]) (by simp [results, Try.results115, go_sem, t0, t1]) rfl (zero_givesT (z := w.heap.size + 1) (by omega) (Or.inr ⟨fun q => by have h1 := q.2.2.1.1; rw [Int.toNat_natCast] at h1; have h2 := HN.out; have h3 : lfP c m x = 0 := h1; omega, rfl, rfl⟩) HB.out)
  have HN : Hid (lfP c m x = 0) := by have := HN0.out; show _ = _; omega
  have d1 : decide (lfP c m x > 0) = false := by simp; omega
  clear h0
  obtain ⟨p0, p1⟩ := get2 HA0.out
  go_wp2_with fail
  clear p0 p1 hfm
  refine (l6Own_any ⟨a1, a2, q1, q2⟩ c kn len p m Y _ hk4 (fun i hi => (HG.out.leaf i hi).1) HA.out).mono ?_
  rintro e w3 ⟨b3, rfl, own, hb3⟩
  have hs3 := HSZ.out
  have hs4 := hb3.size
  obtain ⟨bt, bl, c1, c2, A, C, Z, X, rfl, hOT⟩ := OT.make (lo := w.heap.size + 1 + 1) hk1 (own.mono (fun x hx => ⟨by omega, hx.2⟩)) (by omega)
  have hA3 : Blw w3 (w3.alloc (.cells #[.slice (some ⟨bt, 0, none⟩) 4 c1, .slice (some ⟨bl, 0, none⟩) kn c2] 29)) := (Blw.refl _).alloc _
  have HOT : Hid (OT (w.heap.size + 1 + 1) w3.heap.size (w3.alloc (.cells #[.slice (some ⟨bt, 0, none⟩) 4 c1, .slice (some ⟨bl, 0, none⟩) kn c2] 29)) bt bl c1 c2 c kn p m A C Z X) := hOT
  replace HB : Hid (Blw w (w3.alloc (.cells #[.slice (some ⟨bt, 0, none⟩) 4 c1, .slice (some ⟨bl, 0, none⟩) kn c2] 29))) := HB.out.trans (hb3.trans hA3)
  replace HR : Hid (Row (w3.alloc (.cells #[.slice (some ⟨bt, 0, none⟩) 4 c1, .slice (some ⟨bl, 0, none⟩) kn c2] 29)) (w.heap.size + 1) 2 (fun i => if i = 0 then .slice none 0 0 else .slice none 0 0)) := HR.out.blw (hb3.trans hA3)
  have hd : Int.tdiv (x : Int) 4 = ((x / 4 : Nat) : Int) := by rw [Int.tdiv_eq_ediv_of_nonneg (by omega)]; rfl
  have hr : Int.tmod (x : Int) 4 = ((x % 4 : Nat) : Int) := by rw [Int.tmod_eq_emod_of_nonneg (by omega)]; rfl
  have hd4 : x / 4 < 4 := by omega
  have hr4 : x % 4 < 4 := by omega
  have hd4' : ((x / 4 : Nat) : Int) < 4 := by omega
  have hr4' : ((x % 4 : Nat) : Int) < 4 := by omega
  have htop := HG.out.top (x / 4) hd4
  dsimp only at htop
  clear own hb3 hA3 hs3 hs4 hOT HA HA0
  have HOUT : Hid (∀ q, goes c kn (x / 4) q → chOut ⟨4, c, ⟨kn, len, p, m⟩⟩ (x : Int) (fun _ oy => oy = 0 ∧ pgOK g ∧ mayOK y) (fun _ => g) y ⟨4, upd c (x / 4) q, ⟨kn, fun _ => 4, upd2 p q (x % 4) g, upd2 m q (x % 4) y⟩⟩ true) := by
    intro q hq
    refine Or.inl ⟨⟨HG.out, H1.out, by rw [Int.toNat_natCast]; exact ⟨HN.out, H2.out, H3.out⟩, q, by rw [Int.toNat_natCast]; exact hq⟩, ⟨q, by rw [Int.toNat_natCast]; exact hq, ?_⟩, rfl⟩
    rw [Int.toNat_natCast]
    unfold chB
    dsimp only
    rw [topsOf_no (nz8 hr4 H3.out (upd2_at _ _ _ _))]
  have HNO : Hid (¬ (∃ q, goes c kn (x / 4) q) → ¬ chOK ⟨4, c, ⟨kn, len, p, m⟩⟩ (x : Int) (fun _ oy => oy = 0 ∧ pgOK g ∧ mayOK y)) := fun hno q => hno (by have h1 := q.2.2.2; rw [Int.toNat_natCast] at h1; exact h1)
  clear HN HN0 H2
  go_upto_region 4 with fail
  generalize w3.alloc (.cells #[.slice (some ⟨bt, 0, none⟩) 4 c1, .slice (some ⟨bl, 0, none⟩) kn c2] 29) = W at *
  generalize w3.heap.size = zb at *
  generalize x / 4 = t at *
  generalize x % 4 = j at *
  go_wp2_with fail
  go_loopw [12] (fun i wr => ∃ k : Nat, k ≤ kn ∧ i = .int .i64 k ∧ ∃ c', OT (w.heap.size + 1 + 1) zb wr bt bl c1 c2 c' kn p m A C Z X ∧ ((c' = c ∧ c t = -1 ∧ ∀ k', k' < k → hasLine 4 c (k' : Int)) ∨ ∃ q : Nat, q < kn ∧ goes c kn t q ∧ c' = upd c t q) ∧ Blw w wr ∧ Row wr (w.heap.size + 1) 2 (fun i => if i = 0 then .slice none 0 0 else .slice none 0 0)) (fun i _ => kn - (intOf i).toNat)
  case atStart =>
    refine ⟨0, Nat.zero_le _, rfl, c, HOT.out, ?_, HB.out, HR.out⟩
    by_cases h0 : 0 ≤ c t
    · obtain ⟨q, hq⟩ : ∃ q : Nat, c t = q := ⟨(c t).toNat, by omega⟩
      exact Or.inr ⟨q, by omega, Or.inl hq, (upd_self hq).symm⟩
    · exact Or.inl ⟨rfl, by omega, fun k' hk' => absurd hk' (Nat.not_lt_zero _)⟩
  case round =>
    clear HOT HB HR
    obtain ⟨k, hk, rfl, c', hot, hst, hb, hrr⟩ := hrel
    have HOT : Hid (OT (w.heap.size + 1 + 1) zb wr bt bl c1 c2 c' kn p m A C Z X) := hot
    have HB : Hid (Blw w wr) := hb
    have HR : Hid (Row wr (w.heap.size + 1) 2 (fun i => if i = 0 then .slice none 0 0 else .slice none 0 0)) := hrr
    clear hot hb hrr
    have x0 := (get2 HOT.out.box).1
    have x1 := (get2 HOT.out.box).2
    have tp := HOT.out.top.cell hd4
    rcases hst with ⟨rfl, hc, hall⟩ | ⟨q, hqk, hgo, rfl⟩
    · have HALL : Hid (∀ k', k' < k → hasLine 4 c' (k' : Int)) := hall
      have HC : Hid (c' t = -1) := hc
      rw [hc] at tp
      clear hc hall
      by_cases hlt : k < kn
      · have hlt' : (k : Int) < (kn : Int) := by omega
        go_wp2_with fail
        refine (l1Has_any (some ⟨bt, 0, none⟩) c1 4 c' _ _ (k : Int) HOT.out.topAt).mono ?_
        rintro e wr ⟨r, rfl, hr5, rfl⟩
        have HT : Hid (r = true ↔ hasLine 4 c' (k : Int)) := hr5
        clear hr5
        cases r
        · have HGO : Hid (goes c' kn t k) := Or.inr ⟨HC.out, hlt, fun g => by have := HT.out.2 g; simp at this, HALL.out⟩
          have f0 := HOT.out.top.frozen t
          have ms : Mod (fun x => x = bt) wr (wr.setCell ⟨bt, t, none⟩ (.int .i64 k)) := Mod.setCell (X := fun x => x = bt) _ (p := ⟨bt, t, none⟩) rfl _
          have hb := HOT.out.nb
          replace HOT : Hid (OT (w.heap.size + 1 + 1) zb (wr.setCell ⟨bt, t, none⟩ (.int .i64 k)) bt bl c1 c2 (upd c' t k) kn p m A C Z X) := HOT.out.setTop t k
          replace HB : Hid (Blw w (wr.setCell ⟨bt, t, none⟩ (.int .i64 k))) := Mod.blw HB.out ms (fun i hi => by omega)
          replace HR : Hid (Row (wr.setCell ⟨bt, t, none⟩ (.int .i64 k)) (w.heap.size + 1) 2 (fun i => if i = 0 then .slice none 0 0 else .slice none 0 0)) := HR.out.mod ms (by omega)
          clear ms hb HT HALL HC
          go_wp2
          go_roundw
          case rel => exact ⟨k + 1, by omega, by go_num, upd c' t k, HOT.out, Or.inr ⟨k, hlt, HGO.out, rfl⟩, HB.out, HR.out⟩
          case measure => simp [intOf]; omega
        · have HN : Hid (∀ k', k' < k + 1 → hasLine 4 c' (k' : Int)) := has_step HALL.out (HT.out.1 (by first | rfl | trivial))
          clear HT HALL
          go_wp2
          go_roundw
          case rel => exact ⟨k + 1, by omega, by go_num, c', HOT.out, Or.inl ⟨rfl, HC.out, HN.out⟩, HB.out, HR.out⟩
          case measure => simp [intOf]; omega
      · obtain rfl : k = kn := by omega
        have HNN : Hid (¬ chOK ⟨4, c', ⟨k, len, p, m⟩⟩ (x : Int) (fun _ oy => oy = 0 ∧ pgOK g ∧ mayOK y)) := HNO.out (show ¬ ∃ q, goes c' k t q from fun ⟨q, g⟩ => by
          rcases g with g | ⟨-, g1, g2, -⟩
          · have := HC.out; omega
          · exact g2 (HALL.out q g1))
        obtain ⟨t0, t1⟩ := get2 HR.out
        have f0 := HR.out.frozen 0
        have f1 := HR.out.frozen 1
        clear HR HALL HC HOT HOUT HNO
        go_wp2
        exact bodyPost_ret (v := .tuple #[BV.zero.val BD.zero, .bool false]) (by simp [results, Try.results115, go_sem, t0, t1]) rfl (zero_givesT (z := w.heap.size + 1) (by omega) (Or.inr ⟨HNN.out, rfl, rfl⟩) HB.out)
    · rw [upd_at] at tp
      have hqk' : (q : Int) < (kn : Int) := by omega
      have HGO : Hid (goes c kn t q) := hgo
      replace HOUT : Hid (chOut ⟨4, c, ⟨kn, len, p, m⟩⟩ (x : Int) (fun _ oy => oy = 0 ∧ pgOK g ∧ mayOK y) (fun _ => g) y ⟨4, upd c t q, ⟨kn, fun _ => 4, upd2 p q j g, upd2 m q j y⟩⟩ true) := HOUT.out q HGO.out
      clear hgo HNO
      have hk' : (k : Int) ≤ (kn : Int) := by omega
      by_cases hlt : k < kn
      · have hlt' : (k : Int) < (kn : Int) := by omega
        go_upto_region 12 with fail
        clear x0 x1 tp
        generalize wr = W at *
        replace HOT : Hid (OT (w.heap.size + 1 + 1) zb W.drew bt bl c1 c2 (upd c t q) kn p m A C Z X) := HOT.out.go (Blw.refl _).drew
        replace HB : Hid (Blw w W.drew) := HB.out.drew
        replace HR : Hid (Row W.drew (w.heap.size + 1) 2 (fun i => if i = 0 then .slice none 0 0 else .slice none 0 0)) := HR.out.blw (Blw.refl _).drew
        obtain ⟨gb, ea, n1, n2, n3, hlo, hr8, hs2, -⟩ := HOT.out.leaf hqk hr4
        have x0 := (get2 HOT.out.box).1
        have x1 := (get2 HOT.out.box).2
        have tp := HOT.out.top.cell hd4
        rw [upd_at] at tp
        have ls := HOT.out.ls.row.cell hqk
        dsimp only at ls
        rw [ea] at ls
        have f0 := hr8.frozen (j * 2)
        have f1 := hr8.frozen (j * 2 + 1)
        have l0 : W.drew.cell? ⟨gb, j * 2, none⟩ = some (.int .i64 (p q j)) := by rw [hr8.cell (i := j * 2) (by omega), (uc_at _ _ j).1]
        have l1 : W.drew.cell? ⟨gb, j * 2 + 1, none⟩ = some (.int .i64 (m q j)) := by rw [hr8.cell (i := j * 2 + 1) (by omega), (uc_at _ _ j).2]
        have HOTF : Hid (OT (w.heap.size + 1 + 1) zb ((W.drew.setCell ⟨gb, j * 2, none⟩ (.int .i64 g)).setCell ⟨gb, j * 2 + 1, none⟩ (.int .i64 y)) bt bl c1 c2 (upd c t q) kn (upd2 p q j g) (upd2 m q j y) A C Z X) := hs2 g y
        have ms : Mod (fun x => x = gb) W.drew ((W.drew.setCell ⟨gb, j * 2, none⟩ (.int .i64 g)).setCell ⟨gb, j * 2 + 1, none⟩ (.int .i64 y)) := (Mod.setCell (X := fun x => x = gb) _ (p := ⟨gb, j * 2, none⟩) rfl _).trans (Mod.setCell (X := fun x => x = gb) _ (p := ⟨gb, j * 2 + 1, none⟩) rfl _)
        have HB' : Hid (Blw w ((W.drew.setCell ⟨gb, j * 2, none⟩ (.int .i64 g)).setCell ⟨gb, j * 2 + 1, none⟩ (.int .i64 y))) := Mod.blw HB.out ms (fun i hi => by omega)
        have HR' : Hid (Row ((W.drew.setCell ⟨gb, j * 2, none⟩ (.int .i64 g)).setCell ⟨gb, j * 2 + 1, none⟩ (.int .i64 y)) (w.heap.size + 1) 2 (fun i => if i = 0 then .slice none 0 0 else .slice none 0 0)) := HR.out.mod ms (by omega)
        clear hs2 hr8 ms HOT HB HR ea hlo
        have hwt : IntKind.i64.wrap ((t : Nat) : Int) = t := by rw [IntKind.wrap_i64]; omega
        have hwj : IntKind.i64.wrap ((j : Nat) : Int) = j := by rw [IntKind.wrap_i64]; omega
        have hS0 := And.intro x0 (And.intro x1 (And.intro tp ls))
        refine wp_region_noPanic ?_
        refine wp_region_held_drew (S := fun (w' : World) => w'.cell? ⟨zb, 0, none⟩ = some (.slice (some ⟨bt, 0, none⟩) 4 c1) ∧ w'.cell? ⟨zb, 1, none⟩ = some (.slice (some ⟨bl, 0, none⟩) kn c2) ∧ w'.cell? ⟨bt, t, none⟩ = some (.int .i64 q) ∧ w'.cell? ⟨bl, q, none⟩ = some (.slice (some ⟨gb, 0, none⟩) 4 (C q))) (by kernel_rfl) hS0 (fun hB => ?_)
        clear hB
        generalize W.drew = wd at *
        refine wpAnyH_take (i := 0) (oi := { dst := some 75, op := Op.fieldAddr 29 (Operand.tmp 10) 1, type := 0, pos := _, after := #[], guard := none }) (v := (.pointer (some ⟨zb, 1, none⟩))) rfl (by kernel_rfl) (by kernel_rfl) (by kernel_rfl) (fun _ _ _ h => h) (Or.inl ⟨by rfl, fun w' hS => by (try dsimp only at hS); go_simp⟩) hS0 ?_
        simp only [Act.put, List.setIfInBounds_toArray, List.set_cons_zero, List.set_cons_succ]
        refine wpAnyH_take (i := 2) (oi := { dst := some 77, op := Op.fieldAddr 29 (Operand.tmp 10) 0, type := 0, pos := _, after := #[], guard := none }) (v := (.pointer (some ⟨zb, 0, none⟩))) rfl (by kernel_rfl) (by kernel_rfl) (by kernel_rfl) (fun _ _ _ h => h) (Or.inl ⟨by rfl, fun w' hS => by (try dsimp only at hS); go_simp⟩) hS0 ?_
        simp only [Act.put, List.setIfInBounds_toArray, List.set_cons_zero, List.set_cons_succ]
        refine wpAnyH_take (i := 4) (oi := { dst := some 79, op := Op.move (Operand.tmp 11), type := 3, pos := _, after := #[], guard := none }) (v := (.int .i64 t)) rfl (by kernel_rfl) (by kernel_rfl) (by kernel_rfl) (fun _ _ _ h => h) (Or.inl ⟨by rfl, fun w' hS => by (try dsimp only at hS); go_simp⟩) hS0 ?_
        simp only [Act.put, List.setIfInBounds_toArray, List.set_cons_zero, List.set_cons_succ]
        refine wpAnyH_take (i := 9) (oi := { dst := some 84, op := Op.move (Operand.tmp 1), type := 3, pos := _, after := #[], guard := none }) (v := (.int .i64 x)) rfl (by kernel_rfl) (by kernel_rfl) (by kernel_rfl) (fun _ _ _ h => h) (Or.inl ⟨by rfl, fun w' hS => by (try dsimp only at hS); go_simp⟩) hS0 ?_
        simp only [Act.put, List.setIfInBounds_toArray, List.set_cons_zero, List.set_cons_succ]
        refine wpAnyH_take (i := 11) (oi := { dst := some 86, op := Op.move (Operand.tmp 2), type := 3, pos := _, after := #[], guard := none }) (v := (.int .i64 g)) rfl (by kernel_rfl) (by kernel_rfl) (by kernel_rfl) (fun _ _ _ h => h) (Or.inl ⟨by rfl, fun w' hS => by (try dsimp only at hS); go_simp⟩) hS0 ?_
        simp only [Act.put, List.setIfInBounds_toArray, List.set_cons_zero, List.set_cons_succ]
        refine wpAnyH_take (i := 12) (oi := { dst := some 87, op := Op.move (Operand.tmp 3), type := 3, pos := _, after := #[], guard := none }) (v := (.int .i64 y)) rfl (by kernel_rfl) (by kernel_rfl) (by kernel_rfl) (fun _ _ _ h => h) (Or.inl ⟨by rfl, fun w' hS => by (try dsimp only at hS); go_simp⟩) hS0 ?_
        simp only [Act.put, List.setIfInBounds_toArray, List.set_cons_zero, List.set_cons_succ]
        refine wpAnyH_take (i := 1) (oi := { dst := some 76, op := Op.load 27 (Operand.tmp 75), type := 27, pos := _, after := #[{ on := 0, ground := Ground.data }], guard := none }) (v := (.slice (some ⟨bl, 0, none⟩) kn c2)) rfl (by kernel_rfl) (by kernel_rfl) (by kernel_rfl) (fun _ _ _ h => h) (Or.inl ⟨by rfl, fun w' hS => by (try dsimp only at hS); go_simp⟩) hS0 ?_
        simp only [Act.put, List.setIfInBounds_toArray, List.set_cons_zero, List.set_cons_succ]
        refine wpAnyH_take (i := 3) (oi := { dst := some 78, op := Op.load 26 (Operand.tmp 77), type := 26, pos := _, after := #[{ on := 2, ground := Ground.data }], guard := none }) (v := (.slice (some ⟨bt, 0, none⟩) 4 c1)) rfl (by kernel_rfl) (by kernel_rfl) (by kernel_rfl) (fun _ _ _ h => h) (Or.inl ⟨by rfl, fun w' hS => by (try dsimp only at hS); go_simp⟩) hS0 ?_
        simp only [Act.put, List.setIfInBounds_toArray, List.set_cons_zero, List.set_cons_succ]
        refine wpAnyH_take (i := 10) (oi := { dst := some 85, op := Op.binOp BinOp.rem 3 (Operand.tmp 84) (Operand.const (Value.int IntKind.i64 4)) 3, type := 3, pos := _, after := #[{ on := 9, ground := Ground.data }], guard := none }) (v := (.int .i64 j)) rfl (by kernel_rfl) (by kernel_rfl) (by kernel_rfl) (fun _ _ _ h => h) (Or.inl ⟨by rfl, fun w' hS => by (try dsimp only at hS); go_simp⟩) hS0 ?_
        simp only [Act.put, List.setIfInBounds_toArray, List.set_cons_zero, List.set_cons_succ]
        refine wpAnyH_take (i := 13) (oi := { dst := some 88, op := Op.build 144 #[(0, Operand.tmp 86), (1, Operand.tmp 87)], type := 144, pos := _, after := #[{ on := 11, ground := Ground.data }, { on := 12, ground := Ground.data }], guard := none }) (v := (.agg #[.int .i64 g, .int .i64 y])) rfl (by kernel_rfl) (by kernel_rfl) (by kernel_rfl) (fun _ _ _ h => h) (Or.inl ⟨by rfl, fun w' hS => by (try dsimp only at hS); go_simp⟩) hS0 ?_
        simp only [Act.put, List.setIfInBounds_toArray, List.set_cons_zero, List.set_cons_succ]
        refine wpAnyH_take (i := 5) (oi := { dst := some 80, op := Op.indexAddr 26 (Operand.tmp 78) (Operand.tmp 79), type := 0, pos := _, after := #[{ on := 3, ground := Ground.data }, { on := 4, ground := Ground.data }], guard := none }) (v := (.pointer (some ⟨bt, t, none⟩))) rfl (by kernel_rfl) (by kernel_rfl) (by kernel_rfl) (fun _ _ _ h => h) (Or.inl ⟨by rfl, fun w' hS => by (try dsimp only at hS); go_simp⟩) hS0 ?_
        simp only [Act.put, List.setIfInBounds_toArray, List.set_cons_zero, List.set_cons_succ]
        refine wpAnyH_take (i := 6) (oi := { dst := some 81, op := Op.load 3 (Operand.tmp 80), type := 3, pos := _, after := #[{ on := 5, ground := Ground.data }], guard := none }) (v := (.int .i64 q)) rfl (by kernel_rfl) (by kernel_rfl) (by kernel_rfl) (fun _ _ _ h => h) (Or.inl ⟨by rfl, fun w' hS => by (try dsimp only at hS); go_simp⟩) hS0 ?_
        simp only [Act.put, List.setIfInBounds_toArray, List.set_cons_zero, List.set_cons_succ]
        refine wpAnyH_take (i := 7) (oi := { dst := some 82, op := Op.indexAddr 27 (Operand.tmp 76) (Operand.tmp 81), type := 0, pos := _, after := #[{ on := 1, ground := Ground.data }, { on := 6, ground := Ground.data }], guard := none }) (v := (.pointer (some ⟨bl, q, none⟩))) rfl (by kernel_rfl) (by kernel_rfl) (by kernel_rfl) (fun _ _ _ h => h) (Or.inl ⟨by rfl, fun w' hS => by (try dsimp only at hS); go_simp⟩) hS0 ?_
        simp only [Act.put, List.setIfInBounds_toArray, List.set_cons_zero, List.set_cons_succ]
        refine wpAnyH_take (i := 8) (oi := { dst := some 83, op := Op.load 147 (Operand.tmp 82), type := 147, pos := _, after := #[{ on := 7, ground := Ground.data }], guard := none }) (v := (.slice (some ⟨gb, 0, none⟩) 4 (C q))) rfl (by kernel_rfl) (by kernel_rfl) (by kernel_rfl) (fun _ _ _ h => h) (Or.inl ⟨by rfl, fun w' hS => by (try dsimp only at hS); go_simp⟩) hS0 ?_
        simp only [Act.put, List.setIfInBounds_toArray, List.set_cons_zero, List.set_cons_succ]
        refine wpAnyH_take (i := 14) (oi := { dst := some 89, op := Op.indexAddr 147 (Operand.tmp 83) (Operand.tmp 85), type := 0, pos := _, after := #[{ on := 8, ground := Ground.data }, { on := 10, ground := Ground.data }, { on := 0, ground := Ground.phase }, { on := 1, ground := Ground.phase }, { on := 2, ground := Ground.phase }, { on := 3, ground := Ground.phase }, { on := 4, ground := Ground.phase }, { on := 5, ground := Ground.phase }, { on := 6, ground := Ground.phase }, { on := 7, ground := Ground.phase }, { on := 8, ground := Ground.phase }, { on := 9, ground := Ground.phase }, { on := 10, ground := Ground.phase }, { on := 11, ground := Ground.phase }, { on := 12, ground := Ground.phase }, { on := 13, ground := Ground.phase }], guard := none }) (v := (.pointer (some ⟨gb, j * 2, none⟩))) rfl (by kernel_rfl) (by kernel_rfl) (by kernel_rfl) (fun _ _ _ h => h) (Or.inl ⟨by rfl, fun w' hS => by (try dsimp only at hS); go_simp⟩) hS0 ?_
        simp only [Act.put, List.setIfInBounds_toArray, List.set_cons_zero, List.set_cons_succ]
        refine wpAnyH_ready (rs := [15]) (by kernel_rfl) (by simp) ?_
        refine AllReadyH.cons (o := { dst := none, op := Op.store 144 (Operand.tmp 89) (Operand.tmp 88), type := 0, pos := _, after := #[{ on := 14, ground := Ground.data }, { on := 13, ground := Ground.data }, { on := 0, ground := Ground.phase }, { on := 1, ground := Ground.phase }, { on := 2, ground := Ground.phase }, { on := 3, ground := Ground.phase }, { on := 4, ground := Ground.phase }, { on := 5, ground := Ground.phase }, { on := 6, ground := Ground.phase }, { on := 7, ground := Ground.phase }, { on := 8, ground := Ground.phase }, { on := 9, ground := Ground.phase }, { on := 10, ground := Ground.phase }, { on := 11, ground := Ground.phase }, { on := 12, ground := Ground.phase }, { on := 13, ground := Ground.phase }], guard := none }) rfl (fun K hK => ?_) AllReadyH.nil
        go_simp
        have mS : Mod (fun x => x = gb) wd ((wd.setCell ⟨gb, j * 2, none⟩ (.int .i64 g)).setCell ⟨gb, j * 2 + 1, none⟩ (.int .i64 y)) := (Mod.setCell (X := fun x => x = gb) _ (p := ⟨gb, j * 2, none⟩) rfl _).trans (Mod.setCell (X := fun x => x = gb) _ (p := ⟨gb, j * 2 + 1, none⟩) rfl _)
        have hSt := And.intro (mS.cell x0 (fun e => n1 e.symm)) (And.intro (mS.cell x1 (fun e => n1 e.symm)) (And.intro (mS.cell tp (fun e => n2 e.symm)) (mS.cell ls (fun e => n3 e.symm))))
        clear mS
        refine hK.out _ _ hSt (fun hB => ?_)
        clear hK K hB
        try simp only [Act.put, List.setIfInBounds_toArray, List.set_cons_zero, List.set_cons_succ]
        refine wpAnyH_done (by kernel_rfl) ?_ _
        refine NoPanic.normal ?_
        clear hSt hS0 x0 x1 tp ls f0 f1 l0 l1
        replace HB : Hid (Blw w ((wd.setCell ⟨gb, j * 2, none⟩ (.int .i64 g)).setCell ⟨gb, j * 2 + 1, none⟩ (.int .i64 y))) := HB'.out
        replace HR : Hid (Row ((wd.setCell ⟨gb, j * 2, none⟩ (.int .i64 g)).setCell ⟨gb, j * 2 + 1, none⟩ (.int .i64 y)) (w.heap.size + 1) 2 (fun i => if i = 0 then .slice none 0 0 else .slice none 0 0)) := HR'.out
        clear HB' HR'
        generalize ((wd.setCell ⟨gb, j * 2, none⟩ (.int .i64 g)).setCell ⟨gb, j * 2 + 1, none⟩ (.int .i64 y)) = WF at *
        generalize upd c t q = cF at *
        generalize upd2 p q j g = pF at *
        generalize upd2 m q j y = mF at *
        have hzr := HR.out.lt
        have hzb := HOTF.out.nb.2.2
        have FIN : Hid _ := fin_givesT (out := chOut ⟨4, c, ⟨kn, len, p, m⟩⟩ (x : Int) (fun _ oy => oy = 0 ∧ pgOK g ∧ mayOK y) (fun _ => g) y) (w := w) (W := WF) (z := w.heap.size + 1) (b := ⟨some ⟨bt, 0, none⟩, some ⟨bl, 0, none⟩, c1, c2⟩) (R := ⟨4, cF, ⟨kn, fun _ => 4, pF, mF⟩⟩) (by omega) HOUT.out (tot4 (c := c) hk4) HB.out (HOTF.out.own hk4) (fun x hx => ⟨by omega, by omega, hx.2⟩)
        obtain ⟨t0, t1⟩ := get2 HR.out
        obtain ⟨s0, s1⟩ := get2 HOTF.out.box
        have f0 := HR.out.frozen 0
        have f1 := HR.out.frozen 1
        clear HR HB HOTF HOUT hzr hzb
        go_wp2
        exact bodyPost_ret (v := .tuple #[(BV.mk (some ⟨bt, 0, none⟩) (some ⟨bl, 0, none⟩) c1 c2).val ⟨4, cF, ⟨kn, fun _ => 4, pF, mF⟩⟩, .bool true]) (by simp [results, Try.results115, go_sem, t0, t1]) rfl FIN.out
      · have hlt' : ¬ (k : Int) < (kn : Int) := by omega
        go_upto_region 12 with fail
        clear x0 x1 tp
        generalize wr = W at *
        replace HOT : Hid (OT (w.heap.size + 1 + 1) zb W.drew bt bl c1 c2 (upd c t q) kn p m A C Z X) := HOT.out.go (Blw.refl _).drew
        replace HB : Hid (Blw w W.drew) := HB.out.drew
        replace HR : Hid (Row W.drew (w.heap.size + 1) 2 (fun i => if i = 0 then .slice none 0 0 else .slice none 0 0)) := HR.out.blw (Blw.refl _).drew
        obtain ⟨gb, ea, n1, n2, n3, hlo, hr8, hs2, -⟩ := HOT.out.leaf hqk hr4
        have x0 := (get2 HOT.out.box).1
        have x1 := (get2 HOT.out.box).2
        have tp := HOT.out.top.cell hd4
        rw [upd_at] at tp
        have ls := HOT.out.ls.row.cell hqk
        dsimp only at ls
        rw [ea] at ls
        have f0 := hr8.frozen (j * 2)
        have f1 := hr8.frozen (j * 2 + 1)
        have l0 : W.drew.cell? ⟨gb, j * 2, none⟩ = some (.int .i64 (p q j)) := by rw [hr8.cell (i := j * 2) (by omega), (uc_at _ _ j).1]
        have l1 : W.drew.cell? ⟨gb, j * 2 + 1, none⟩ = some (.int .i64 (m q j)) := by rw [hr8.cell (i := j * 2 + 1) (by omega), (uc_at _ _ j).2]
        have HOTF : Hid (OT (w.heap.size + 1 + 1) zb ((W.drew.setCell ⟨gb, j * 2, none⟩ (.int .i64 g)).setCell ⟨gb, j * 2 + 1, none⟩ (.int .i64 y)) bt bl c1 c2 (upd c t q) kn (upd2 p q j g) (upd2 m q j y) A C Z X) := hs2 g y
        have ms : Mod (fun x => x = gb) W.drew ((W.drew.setCell ⟨gb, j * 2, none⟩ (.int .i64 g)).setCell ⟨gb, j * 2 + 1, none⟩ (.int .i64 y)) := (Mod.setCell (X := fun x => x = gb) _ (p := ⟨gb, j * 2, none⟩) rfl _).trans (Mod.setCell (X := fun x => x = gb) _ (p := ⟨gb, j * 2 + 1, none⟩) rfl _)
        have HB' : Hid (Blw w ((W.drew.setCell ⟨gb, j * 2, none⟩ (.int .i64 g)).setCell ⟨gb, j * 2 + 1, none⟩ (.int .i64 y))) := Mod.blw HB.out ms (fun i hi => by omega)
        have HR' : Hid (Row ((W.drew.setCell ⟨gb, j * 2, none⟩ (.int .i64 g)).setCell ⟨gb, j * 2 + 1, none⟩ (.int .i64 y)) (w.heap.size + 1) 2 (fun i => if i = 0 then .slice none 0 0 else .slice none 0 0)) := HR.out.mod ms (by omega)
        clear hs2 hr8 ms HOT HB HR ea hlo
        have hwt : IntKind.i64.wrap ((t : Nat) : Int) = t := by rw [IntKind.wrap_i64]; omega
        have hwj : IntKind.i64.wrap ((j : Nat) : Int) = j := by rw [IntKind.wrap_i64]; omega
        have hS0 := And.intro x0 (And.intro x1 (And.intro tp ls))
        refine wp_region_noPanic ?_
        refine wp_region_held_drew (S := fun (w' : World) => w'.cell? ⟨zb, 0, none⟩ = some (.slice (some ⟨bt, 0, none⟩) 4 c1) ∧ w'.cell? ⟨zb, 1, none⟩ = some (.slice (some ⟨bl, 0, none⟩) kn c2) ∧ w'.cell? ⟨bt, t, none⟩ = some (.int .i64 q) ∧ w'.cell? ⟨bl, q, none⟩ = some (.slice (some ⟨gb, 0, none⟩) 4 (C q))) (by kernel_rfl) hS0 (fun hB => ?_)
        clear hB
        generalize W.drew = wd at *
        refine wpAnyH_take (i := 0) (oi := { dst := some 75, op := Op.fieldAddr 29 (Operand.tmp 10) 1, type := 0, pos := _, after := #[], guard := none }) (v := (.pointer (some ⟨zb, 1, none⟩))) rfl (by kernel_rfl) (by kernel_rfl) (by kernel_rfl) (fun _ _ _ h => h) (Or.inl ⟨by rfl, fun w' hS => by (try dsimp only at hS); go_simp⟩) hS0 ?_
        simp only [Act.put, List.setIfInBounds_toArray, List.set_cons_zero, List.set_cons_succ]
        refine wpAnyH_take (i := 2) (oi := { dst := some 77, op := Op.fieldAddr 29 (Operand.tmp 10) 0, type := 0, pos := _, after := #[], guard := none }) (v := (.pointer (some ⟨zb, 0, none⟩))) rfl (by kernel_rfl) (by kernel_rfl) (by kernel_rfl) (fun _ _ _ h => h) (Or.inl ⟨by rfl, fun w' hS => by (try dsimp only at hS); go_simp⟩) hS0 ?_
        simp only [Act.put, List.setIfInBounds_toArray, List.set_cons_zero, List.set_cons_succ]
        refine wpAnyH_take (i := 4) (oi := { dst := some 79, op := Op.move (Operand.tmp 11), type := 3, pos := _, after := #[], guard := none }) (v := (.int .i64 t)) rfl (by kernel_rfl) (by kernel_rfl) (by kernel_rfl) (fun _ _ _ h => h) (Or.inl ⟨by rfl, fun w' hS => by (try dsimp only at hS); go_simp⟩) hS0 ?_
        simp only [Act.put, List.setIfInBounds_toArray, List.set_cons_zero, List.set_cons_succ]
        refine wpAnyH_take (i := 9) (oi := { dst := some 84, op := Op.move (Operand.tmp 1), type := 3, pos := _, after := #[], guard := none }) (v := (.int .i64 x)) rfl (by kernel_rfl) (by kernel_rfl) (by kernel_rfl) (fun _ _ _ h => h) (Or.inl ⟨by rfl, fun w' hS => by (try dsimp only at hS); go_simp⟩) hS0 ?_
        simp only [Act.put, List.setIfInBounds_toArray, List.set_cons_zero, List.set_cons_succ]
        refine wpAnyH_take (i := 11) (oi := { dst := some 86, op := Op.move (Operand.tmp 2), type := 3, pos := _, after := #[], guard := none }) (v := (.int .i64 g)) rfl (by kernel_rfl) (by kernel_rfl) (by kernel_rfl) (fun _ _ _ h => h) (Or.inl ⟨by rfl, fun w' hS => by (try dsimp only at hS); go_simp⟩) hS0 ?_
        simp only [Act.put, List.setIfInBounds_toArray, List.set_cons_zero, List.set_cons_succ]
        refine wpAnyH_take (i := 12) (oi := { dst := some 87, op := Op.move (Operand.tmp 3), type := 3, pos := _, after := #[], guard := none }) (v := (.int .i64 y)) rfl (by kernel_rfl) (by kernel_rfl) (by kernel_rfl) (fun _ _ _ h => h) (Or.inl ⟨by rfl, fun w' hS => by (try dsimp only at hS); go_simp⟩) hS0 ?_
        simp only [Act.put, List.setIfInBounds_toArray, List.set_cons_zero, List.set_cons_succ]
        refine wpAnyH_take (i := 1) (oi := { dst := some 76, op := Op.load 27 (Operand.tmp 75), type := 27, pos := _, after := #[{ on := 0, ground := Ground.data }], guard := none }) (v := (.slice (some ⟨bl, 0, none⟩) kn c2)) rfl (by kernel_rfl) (by kernel_rfl) (by kernel_rfl) (fun _ _ _ h => h) (Or.inl ⟨by rfl, fun w' hS => by (try dsimp only at hS); go_simp⟩) hS0 ?_
        simp only [Act.put, List.setIfInBounds_toArray, List.set_cons_zero, List.set_cons_succ]
        refine wpAnyH_take (i := 3) (oi := { dst := some 78, op := Op.load 26 (Operand.tmp 77), type := 26, pos := _, after := #[{ on := 2, ground := Ground.data }], guard := none }) (v := (.slice (some ⟨bt, 0, none⟩) 4 c1)) rfl (by kernel_rfl) (by kernel_rfl) (by kernel_rfl) (fun _ _ _ h => h) (Or.inl ⟨by rfl, fun w' hS => by (try dsimp only at hS); go_simp⟩) hS0 ?_
        simp only [Act.put, List.setIfInBounds_toArray, List.set_cons_zero, List.set_cons_succ]
        refine wpAnyH_take (i := 10) (oi := { dst := some 85, op := Op.binOp BinOp.rem 3 (Operand.tmp 84) (Operand.const (Value.int IntKind.i64 4)) 3, type := 3, pos := _, after := #[{ on := 9, ground := Ground.data }], guard := none }) (v := (.int .i64 j)) rfl (by kernel_rfl) (by kernel_rfl) (by kernel_rfl) (fun _ _ _ h => h) (Or.inl ⟨by rfl, fun w' hS => by (try dsimp only at hS); go_simp⟩) hS0 ?_
        simp only [Act.put, List.setIfInBounds_toArray, List.set_cons_zero, List.set_cons_succ]
        refine wpAnyH_take (i := 13) (oi := { dst := some 88, op := Op.build 144 #[(0, Operand.tmp 86), (1, Operand.tmp 87)], type := 144, pos := _, after := #[{ on := 11, ground := Ground.data }, { on := 12, ground := Ground.data }], guard := none }) (v := (.agg #[.int .i64 g, .int .i64 y])) rfl (by kernel_rfl) (by kernel_rfl) (by kernel_rfl) (fun _ _ _ h => h) (Or.inl ⟨by rfl, fun w' hS => by (try dsimp only at hS); go_simp⟩) hS0 ?_
        simp only [Act.put, List.setIfInBounds_toArray, List.set_cons_zero, List.set_cons_succ]
        refine wpAnyH_take (i := 5) (oi := { dst := some 80, op := Op.indexAddr 26 (Operand.tmp 78) (Operand.tmp 79), type := 0, pos := _, after := #[{ on := 3, ground := Ground.data }, { on := 4, ground := Ground.data }], guard := none }) (v := (.pointer (some ⟨bt, t, none⟩))) rfl (by kernel_rfl) (by kernel_rfl) (by kernel_rfl) (fun _ _ _ h => h) (Or.inl ⟨by rfl, fun w' hS => by (try dsimp only at hS); go_simp⟩) hS0 ?_
        simp only [Act.put, List.setIfInBounds_toArray, List.set_cons_zero, List.set_cons_succ]
        refine wpAnyH_take (i := 6) (oi := { dst := some 81, op := Op.load 3 (Operand.tmp 80), type := 3, pos := _, after := #[{ on := 5, ground := Ground.data }], guard := none }) (v := (.int .i64 q)) rfl (by kernel_rfl) (by kernel_rfl) (by kernel_rfl) (fun _ _ _ h => h) (Or.inl ⟨by rfl, fun w' hS => by (try dsimp only at hS); go_simp⟩) hS0 ?_
        simp only [Act.put, List.setIfInBounds_toArray, List.set_cons_zero, List.set_cons_succ]
        refine wpAnyH_take (i := 7) (oi := { dst := some 82, op := Op.indexAddr 27 (Operand.tmp 76) (Operand.tmp 81), type := 0, pos := _, after := #[{ on := 1, ground := Ground.data }, { on := 6, ground := Ground.data }], guard := none }) (v := (.pointer (some ⟨bl, q, none⟩))) rfl (by kernel_rfl) (by kernel_rfl) (by kernel_rfl) (fun _ _ _ h => h) (Or.inl ⟨by rfl, fun w' hS => by (try dsimp only at hS); go_simp⟩) hS0 ?_
        simp only [Act.put, List.setIfInBounds_toArray, List.set_cons_zero, List.set_cons_succ]
        refine wpAnyH_take (i := 8) (oi := { dst := some 83, op := Op.load 147 (Operand.tmp 82), type := 147, pos := _, after := #[{ on := 7, ground := Ground.data }], guard := none }) (v := (.slice (some ⟨gb, 0, none⟩) 4 (C q))) rfl (by kernel_rfl) (by kernel_rfl) (by kernel_rfl) (fun _ _ _ h => h) (Or.inl ⟨by rfl, fun w' hS => by (try dsimp only at hS); go_simp⟩) hS0 ?_
        simp only [Act.put, List.setIfInBounds_toArray, List.set_cons_zero, List.set_cons_succ]
        refine wpAnyH_take (i := 14) (oi := { dst := some 89, op := Op.indexAddr 147 (Operand.tmp 83) (Operand.tmp 85), type := 0, pos := _, after := #[{ on := 8, ground := Ground.data }, { on := 10, ground := Ground.data }, { on := 0, ground := Ground.phase }, { on := 1, ground := Ground.phase }, { on := 2, ground := Ground.phase }, { on := 3, ground := Ground.phase }, { on := 4, ground := Ground.phase }, { on := 5, ground := Ground.phase }, { on := 6, ground := Ground.phase }, { on := 7, ground := Ground.phase }, { on := 8, ground := Ground.phase }, { on := 9, ground := Ground.phase }, { on := 10, ground := Ground.phase }, { on := 11, ground := Ground.phase }, { on := 12, ground := Ground.phase }, { on := 13, ground := Ground.phase }], guard := none }) (v := (.pointer (some ⟨gb, j * 2, none⟩))) rfl (by kernel_rfl) (by kernel_rfl) (by kernel_rfl) (fun _ _ _ h => h) (Or.inl ⟨by rfl, fun w' hS => by (try dsimp only at hS); go_simp⟩) hS0 ?_
        simp only [Act.put, List.setIfInBounds_toArray, List.set_cons_zero, List.set_cons_succ]
        refine wpAnyH_ready (rs := [15]) (by kernel_rfl) (by simp) ?_
        refine AllReadyH.cons (o := { dst := none, op := Op.store 144 (Operand.tmp 89) (Operand.tmp 88), type := 0, pos := _, after := #[{ on := 14, ground := Ground.data }, { on := 13, ground := Ground.data }, { on := 0, ground := Ground.phase }, { on := 1, ground := Ground.phase }, { on := 2, ground := Ground.phase }, { on := 3, ground := Ground.phase }, { on := 4, ground := Ground.phase }, { on := 5, ground := Ground.phase }, { on := 6, ground := Ground.phase }, { on := 7, ground := Ground.phase }, { on := 8, ground := Ground.phase }, { on := 9, ground := Ground.phase }, { on := 10, ground := Ground.phase }, { on := 11, ground := Ground.phase }, { on := 12, ground := Ground.phase }, { on := 13, ground := Ground.phase }], guard := none }) rfl (fun K hK => ?_) AllReadyH.nil
        go_simp
        have mS : Mod (fun x => x = gb) wd ((wd.setCell ⟨gb, j * 2, none⟩ (.int .i64 g)).setCell ⟨gb, j * 2 + 1, none⟩ (.int .i64 y)) := (Mod.setCell (X := fun x => x = gb) _ (p := ⟨gb, j * 2, none⟩) rfl _).trans (Mod.setCell (X := fun x => x = gb) _ (p := ⟨gb, j * 2 + 1, none⟩) rfl _)
        have hSt := And.intro (mS.cell x0 (fun e => n1 e.symm)) (And.intro (mS.cell x1 (fun e => n1 e.symm)) (And.intro (mS.cell tp (fun e => n2 e.symm)) (mS.cell ls (fun e => n3 e.symm))))
        clear mS
        refine hK.out _ _ hSt (fun hB => ?_)
        clear hK K hB
        try simp only [Act.put, List.setIfInBounds_toArray, List.set_cons_zero, List.set_cons_succ]
        refine wpAnyH_done (by kernel_rfl) ?_ _
        refine NoPanic.normal ?_
        clear hSt hS0 x0 x1 tp ls f0 f1 l0 l1
        replace HB : Hid (Blw w ((wd.setCell ⟨gb, j * 2, none⟩ (.int .i64 g)).setCell ⟨gb, j * 2 + 1, none⟩ (.int .i64 y))) := HB'.out
        replace HR : Hid (Row ((wd.setCell ⟨gb, j * 2, none⟩ (.int .i64 g)).setCell ⟨gb, j * 2 + 1, none⟩ (.int .i64 y)) (w.heap.size + 1) 2 (fun i => if i = 0 then .slice none 0 0 else .slice none 0 0)) := HR'.out
        clear HB' HR'
        generalize ((wd.setCell ⟨gb, j * 2, none⟩ (.int .i64 g)).setCell ⟨gb, j * 2 + 1, none⟩ (.int .i64 y)) = WF at *
        generalize upd c t q = cF at *
        generalize upd2 p q j g = pF at *
        generalize upd2 m q j y = mF at *
        have hzr := HR.out.lt
        have hzb := HOTF.out.nb.2.2
        have FIN : Hid _ := fin_givesT (out := chOut ⟨4, c, ⟨kn, len, p, m⟩⟩ (x : Int) (fun _ oy => oy = 0 ∧ pgOK g ∧ mayOK y) (fun _ => g) y) (w := w) (W := WF) (z := w.heap.size + 1) (b := ⟨some ⟨bt, 0, none⟩, some ⟨bl, 0, none⟩, c1, c2⟩) (R := ⟨4, cF, ⟨kn, fun _ => 4, pF, mF⟩⟩) (by omega) HOUT.out (tot4 (c := c) hk4) HB.out (HOTF.out.own hk4) (fun x hx => ⟨by omega, by omega, hx.2⟩)
        obtain ⟨t0, t1⟩ := get2 HR.out
        obtain ⟨s0, s1⟩ := get2 HOTF.out.box
        have f0 := HR.out.frozen 0
        have f1 := HR.out.frozen 1
        clear HR HB HOTF HOUT hzr hzb
        go_wp2
        exact bodyPost_ret (v := .tuple #[(BV.mk (some ⟨bt, 0, none⟩) (some ⟨bl, 0, none⟩) c1 c2).val ⟨4, cF, ⟨kn, fun _ => 4, pF, mF⟩⟩, .bool true]) (by simp [results, Try.results115, go_sem, t0, t1]) rfl FIN.out
end Go.Proofs.Ytjplodenflkghaa
