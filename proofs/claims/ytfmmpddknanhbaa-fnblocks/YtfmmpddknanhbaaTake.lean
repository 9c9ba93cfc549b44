/- The model's TakeBlock. -/
import Derived.Test.YtfmmpddknanhbaaSpecB
namespace Go.Proofs.Ytfmmpddknanhbaa
open Go.RowKit
set_option linter.unusedSimpArgs false
set_option linter.unusedVariables false
set_option maxRecDepth 10000 in
set_option maxHeartbeats 6400000 in
theorem specTake_any (b : BV) (B : BD) (o k : Int) (Y : Nat → Prop) (w : World) (h : BookAt Y w b B) (hY : ∀ x, Y x → x < w.heap.size) :
    Calls Try.prog 16 #[b.val B, .int .i64 o, .int .i64 k] w (GivesN (resN (takeOK B o k) (taken B o k) (takeAt B k)) w) := by
  have hb0 : Blw w ((w.alloc (.cells #[.slice b.a1 B.n b.c1, .slice b.a2 B.k b.c2] 25)).alloc (.cells #[.slice none 0 0, .slice none 0 0] 25)) := ((Blw.refl _).alloc _).alloc _
  have r0 := (box2 w (.slice b.a1 B.n b.c1) (.slice b.a2 B.k b.c2) 25).blw ((Blw.refl _).alloc (.cells #[.slice none 0 0, .slice none 0 0] 25))
  have r1 := box2 (w.alloc (.cells #[.slice b.a1 B.n b.c1, .slice b.a2 B.k b.c2] 25)) (.slice none 0 0) (.slice none 0 0) 25
  rw [World.size_alloc] at r1
  have HA : Hid (BookAt Y ((w.alloc (.cells #[.slice b.a1 B.n b.c1, .slice b.a2 B.k b.c2] 25)).alloc (.cells #[.slice none 0 0, .slice none 0 0] 25)) b B) := h.blw hb0
  clear h
  go_enter Try.func16, Try.ntmps16
  go_wp2_with fail
  refine (specGood_any b B Y _ HA.out).mono ?_
  rintro e w1 ⟨r, rfl, hr, hb1⟩
  have HT : Hid (r = true ↔ B.Good) := hr
  have HB : Hid (Blw w w1) := hb0.trans hb1
  have HR0 : Hid (Row w1 w.heap.size 2 (fun i => if i = 0 then .slice b.a1 B.n b.c1 else .slice b.a2 B.k b.c2)) := r0.blw hb1
  have HR1 : Hid (Row w1 (w.heap.size + 1) 2 (fun i => if i = 0 then .slice none 0 0 else .slice none 0 0)) := r1.blw hb1
  replace HA : Hid (BookAt Y w1 b B) := HA.out.blw hb1
  obtain ⟨t0, t1⟩ := get2 HR1.out
  have f0 := HR1.out.frozen 0
  have f1 := HR1.out.frozen 1
  clear hr hb0 hb1 r0 r1
  cases r
  · have HN : Hid (¬ B.Good) := fun g => by have := HT.out.2 g; simp at this
    clear HT
    go_wp2
    exact bodyPost_ret (v := .tuple #[BV.zero.val BD.zero, .int .i64 0, .bool false]) (by simp [results, Try.results16, go_sem, t0, t1]) rfl (zero_givesN (by omega) (Or.inr ⟨fun g => HN.out g.1, rfl, rfl, rfl⟩) HB.out)
  have HG : Hid (B.Good) := HT.out.1 (by first | rfl | trivial)
  clear HT
  go_wp2_with fail
  refine (l5Who_any o _).mono ?_
  rintro e w1 ⟨r, rfl, hr, rfl⟩
  have HT : Hid (r = true ↔ whoOK o) := hr
  clear hr
  cases r
  · have HN : Hid (¬ whoOK o) := fun g => by have := HT.out.2 g; simp at this
    clear HT
    go_wp2
    exact bodyPost_ret (v := .tuple #[BV.zero.val BD.zero, .int .i64 0, .bool false]) (by simp [results, Try.results16, go_sem, t0, t1]) rfl (zero_givesN (by omega) (Or.inr ⟨fun g => HN.out g.2.1, rfl, rfl, rfl⟩) HB.out)
  have H1 : Hid (whoOK o) := HT.out.1 (by first | rfl | trivial)
  clear HT
  go_wp2_with fail
  refine (l1In_any k 0 4 _).mono ?_
  rintro e w1 ⟨r, rfl, hr, rfl⟩
  have HT : Hid (r = true ↔ (0 ≤ k ∧ k ≤ 4)) := hr
  clear hr
  cases r
  · have HN : Hid (¬ (0 ≤ k ∧ k ≤ 4)) := fun g => by have := HT.out.2 g; simp at this
    clear HT
    go_wp2
    exact bodyPost_ret (v := .tuple #[BV.zero.val BD.zero, .int .i64 0, .bool false]) (by simp [results, Try.results16, go_sem, t0, t1]) rfl (zero_givesN (by omega) (Or.inr ⟨fun g => HN.out g.2.2.1, rfl, rfl, rfl⟩) HB.out)
  have H2 : Hid (ordOK k) := HT.out.1 (by first | rfl | trivial)
  clear HT
  have hsh := shl_u H2.out
  have hbs := bsz_le H2.out
  obtain ⟨k0, hk0, hk4⟩ : ∃ k0 : Nat, k = k0 ∧ k0 ≤ 4 := ⟨k.toNat, by have := H2.out; unfold ordOK at this; omega, by have := H2.out; unfold ordOK at this; omega⟩
  have HK4 : Hid (k0 ≤ 4) := hk4
  have HKE : Hid (k = k0) := hk0
  have hwk : IntKind.u64.wrap k = k := by rw [IntKind.wrap_u64] <;> omega
  have HPS : Hid (bsz k = 2 ^ k0) := by show _ = _; rw [hk0]; exact bsz_nat k0
  obtain ⟨S, hS⟩ : ∃ S, S = bsz k := ⟨_, rfl⟩
  rw [← hS] at hsh hbs
  have HS : Hid (S = bsz k) := hS
  clear hS hk0 hk4
  obtain ⟨n, c, kk, l⟩ := B
  obtain ⟨g1, g2, c1, c2⟩ := b
  have hn16 : n = 16 := HG.out.n
  have hk16 : kk = 16 := HG.out.k
  subst hn16 hk16
  simp only [BV.val] at *
  have HZ : Hid (w.heap.size + 1 < w1.heap.size) := HR1.out.lt
  clear t0 t1 f0 f1
  go_wp2_with fail
  go_loopw [9] (fun i wr => ∃ q : Nat, k0 ≤ q ∧ q ≤ 5 ∧ i = .int .i64 q ∧ (∀ k', k0 ≤ k' → k' < q → blocks c k' = []) ∧ Blw w1 wr) (fun i _ => 5 - (intOf i).toNat)
  case atStart => exact ⟨k0, Nat.le_refl _, by have := HK4.out; omega, by rw [HKE.out], fun k' a b => by omega, Blw.refl _⟩
  case round =>
    obtain ⟨q, hq0, hq5, rfl, hno, hbr⟩ := hrel
    have HNO : Hid (∀ k', k0 ≤ k' → k' < q → blocks c k' = []) := hno
    have HBR : Hid (Blw w1 wr) := hbr
    clear hno hbr
    by_cases hlt : q ≤ 4
    case neg =>
      obtain rfl : q = 5 := by omega
      have r1 := HR1.out.blw HBR.out
      obtain ⟨t0, t1⟩ := get2 r1
      have f0 := r1.frozen 0
      have f1 := r1.frozen 1
      have HN : Hid (¬ takeOK ⟨16, c, 16, l⟩ o k) := fun g => by
        obtain ⟨x, hx⟩ := g.2.2.2
        have ek : k.toNat = k0 := by rw [HKE.out, Int.toNat_natCast]
        have h4 := HK4.out
        have : takeF ⟨16, c, 16, l⟩ k = none := by unfold takeF; rw [ek]; exact ff_none _ _ (fun k' a b => HNO.out k' a (by omega))
        rw [this] at hx
        cases hx
      replace HB : Hid (Blw w wr) := HB.out.trans HBR.out
      clear r1 HNO HBR hsh
      go_wp2
      exact bodyPost_ret (v := .tuple #[BV.zero.val BD.zero, .int .i64 0, .bool false]) (by simp [results, Try.results16, go_sem, t0, t1]) rfl (zero_givesN (by omega) (Or.inr ⟨HN.out, rfl, rfl, rfl⟩) HB.out)
    have hlt' : (q : Int) ≤ 4 := by omega
    have r0 := HR0.out.blw HBR.out
    obtain ⟨p0, p1⟩ := get2 r0
    clear r0
    have hord : ordOK (q : Int) := by unfold ordOK; omega
    have HO : Hid (ordOK (q : Int)) := hord
    clear hord
    go_wp2_with fail
    clear p0 p1
    refine (l5Blocks_any ⟨g1, g2, c1, c2⟩ c l (q : Int) Y _ HG.out HO.out (HA.out.blw HBR.out)).mono ?_
    rintro e w2 ⟨v, rfl, hG⟩
    rw [Int.toNat_natCast] at hG
    have hle := pk_len (blkB c q) 16
    obtain ⟨ao, cap, rfl, hown⟩ := hG.own (by show (pk (blkB c q) 16).length ≤ _; omega)
    have HBG : Hid (Blw w1 w2) := HBR.out.trans hG.blw
    have HWR : Hid (w1.heap.size ≤ wr.heap.size) := HBR.out.size
    clear hG hle
    rcases hL : blocks c q with _ | ⟨x, t⟩
    · have HN : Hid (∀ k', k0 ≤ k' → k' < q + 1 → blocks c k' = []) := fun k' a b => by
        by_cases e : k' = q
        · subst e; exact hL
        · exact HNO.out k' a (by omega)
      rw [hL] at hown
      clear hL hown HNO
      simp only [List.length_nil]
      go_wp2
      go_roundw
      case rel => exact ⟨q + 1, by omega, by omega, by go_num, HN.out, HBG.out⟩
      case measure => simp [intOf]; omega
    obtain ⟨x16, xm, xf, xall⟩ := take_fact HG.out (k0 := k0) hq0 (by omega) hL
    rw [hL] at hown
    obtain ⟨yl, hyl, rfl, hrl⟩ := hown.2 (by simp)
    have hx0 : lf (x :: t) 0 = (x : Int) := rfl
    have HRL : Hid (Row w2 yl 1 (fun _ => .int .i64 (x : Int))) := (show Row w2 yl 1 _ from by
      obtain ⟨cc, tt, e1, e2, e3⟩ := hrl
      have hl1 : 1 ≤ (x :: t).length := by simp
      refine ⟨cc, tt, e1, by omega, fun i hi => ?_⟩
      obtain rfl : i = 0 := by omega
      exact e3 0 (by omega))
    have HF : Hid (takeF ⟨16, c, 16, l⟩ k = some x) := by
      show _ = _
      have ek : k.toNat = k0 := by rw [HKE.out, Int.toNat_natCast]
      have h4 := HK4.out
      unfold takeF
      rw [ek]
      exact ff_some hL _ _ hq0 (by omega) (fun k' a b => HNO.out k' a b)
    rw [← HPS.out, ← HS.out] at xf
    have hyl' := hyl.2
    have HYL : Hid (yl < w2.heap.size) := hyl'
    have HYL1 : Hid (w1.heap.size ≤ yl) := by have := HWR.out; have := hyl.1; show _ ≤ _; omega
    have hlen : ¬ ((x :: t).length : Int) = 0 := by simp; omega
    have hlen2 : (((x :: t).length : Int) == 0) = false := by simp; omega
    have hlen3 : 0 < (x :: t).length := by simp
    revert hlen hlen2 hlen3
    generalize (x :: t).length = nl
    intro hlen hlen2 hlen3
    have hlen4 : (0 : Int) < (nl : Int) := by omega
    clear hL hown hrl hx0 hyl hyl' HNO xm xall HWR hbs
    have r0 := HR0.out.blw HBG.out
    obtain ⟨p0, p1⟩ := get2 r0
    clear r0
    go_wp2_with fail
    clear p0 p1
    refine (l5Own_any ⟨g1, g2, c1, c2⟩ ⟨16, c, 16, l⟩ Y _ (by show 16 + 16 ≤ _; omega) (HA.out.blw HBG.out)).mono ?_
    rintro e w3 ⟨⟨u1, u2, u3, u4⟩, rfl, own, hb3⟩
    obtain ⟨y1, y2, ey1, ey2, x1, x2, hne, q1, q2⟩ := own_rows own
    dsimp only at ey1 ey2
    subst ey1 ey2
    simp only [BV.val]
    have hA : Blw w3 (w3.alloc (.cells #[.slice (some ⟨y1, 0, none⟩) 16 u3, .slice (some ⟨y2, 0, none⟩) 16 u4] 25)) := (Blw.refl _).alloc _
    have hz := HZ.out
    have hz2 := HBG.out.size
    have D0 : Hid (Freeing w (w3.alloc (.cells #[.slice (some ⟨y1, 0, none⟩) 16 u3, .slice (some ⟨y2, 0, none⟩) 16 u4] 25)) w3.heap.size y1 y2 (.slice (some ⟨y1, 0, none⟩) 16 u3) (.slice (some ⟨y2, 0, none⟩) 16 u4) (.slice g1 16 c1) (.slice g2 16 c2) c l o x 0) :=
      ⟨(q1.blw hA).congr (fun i hi => by unfold fillF; rw [if_neg (by omega)]), q2.blw hA, box2 w3 _ _ 25, ((HR0.out.blw HBG.out).blw hb3).blw hA, ((HR1.out.blw HBG.out).blw hb3).blw hA, ((HB.out.trans HBG.out).trans hb3).trans hA, by have := hb3.size; omega, ⟨hne, by omega, by omega⟩⟩
    replace HRL : Hid (Row (w3.alloc (.cells #[.slice (some ⟨y1, 0, none⟩) 16 u3, .slice (some ⟨y2, 0, none⟩) 16 u4] 25)) yl 1 (fun _ => .int .i64 (x : Int))) := (HRL.out.blw hb3).blw hA
    have HNY : Hid (yl ≠ y1) := by have := HYL.out; show _ ≠ _; omega
    have HNR : Hid (yl ≠ w.heap.size + 1) := by have := HYL1.out; show _ ≠ _; omega
    have hg0 := HRL.out.cell (i := 0) (by omega)
    clear own q1 q2 hA hb3 hz hz2 x1 x2 hne HZ HYL HYL1
    go_wp2_with fail
    clear hg0
    generalize w3.heap.size = zb at *
    generalize w3.alloc (.cells #[.slice (some ⟨y1, 0, none⟩) 16 u3, .slice (some ⟨y2, 0, none⟩) 16 u4] 25) = w4 at *
    have e1 : IntKind.i64.wrap ((x : Int) + (S : Int)) = ((x + S : Nat) : Int) := by rw [IntKind.wrap_i64] <;> omega
    go_loopw [12] (fun i wr => ∃ j : Nat, j ≤ S ∧ i = .int .i64 ((x + j : Nat) : Int) ∧ Freeing w wr zb y1 y2 (.slice (some ⟨y1, 0, none⟩) 16 u3) (.slice (some ⟨y2, 0, none⟩) 16 u4) (.slice g1 16 c1) (.slice g2 16 c2) c l o x j ∧ Mod (fun b => b = y1) w4 wr) (fun i _ => x + S - (intOf i).toNat)
    case atStart => exact ⟨0, by omega, rfl, D0.out, Mod.refl _ _⟩
    case round =>
      obtain ⟨j, hj, rfl, hD, hm4⟩ := hrel
      clear D0
      have HD : Hid (Freeing w wr zb y1 y2 (.slice (some ⟨y1, 0, none⟩) 16 u3) (.slice (some ⟨y2, 0, none⟩) 16 u4) (.slice g1 16 c1) (.slice g2 16 c2) c l o x j) := hD
      have HM : Hid (Mod (fun b => b = y1) w4 wr) := hm4
      clear hD hm4
      obtain ⟨v0, v1⟩ := get2 HD.out.bx
      have hgl := (HRL.out.mod HM.out HNY.out).cell (i := 0) (by omega)
      by_cases hlj : j < S
      · have hlj' : ((x + j : Nat) : Int) < ((x + S : Nat) : Int) := by omega
        have hj16 : x + j < 16 := by omega
        have hj16' : ((x + j : Nat) : Int) < 16 := by omega
        have HN2 : Hid (Freeing w (wr.setCell ⟨y1, x + j, none⟩ (.int .i64 o)) zb y1 y2 _ _ _ _ c l o x (j + 1)) := HD.out.step
        have HN3 : Hid (Mod (fun b => b = y1) w4 (wr.setCell ⟨y1, x + j, none⟩ (.int .i64 o))) := HM.out.trans (Mod.setCell (X := fun x => x = y1) _ (p := ⟨y1, x + j, none⟩) rfl _)
        obtain ⟨vv, gv⟩ : ∃ v, wr.cell? ⟨y1, x + j, none⟩ = some v := ⟨_, HD.out.r1.cell hj16⟩
        have gz := HD.out.r1.frozen (x + j)
        clear HD HM
        generalize hpj : x + j = q at *
        go_wp2
        go_roundw
        case rel => exact ⟨j + 1, by omega, by subst hpj; go_num, HN2.out, HN3.out⟩
        case measure => simp [intOf]; omega
      · obtain rfl : j = S := by omega
        have hlj' : ¬ ((x + j : Nat) : Int) < ((x + j : Nat) : Int) := by omega
        have hz := HD.out.lo
        have l1 := HD.out.r1.lt
        have l2 := HD.out.r2.lt
        have own : BookOwn (fun x => x = y1 ∨ x = y2) wr ⟨some ⟨y1, 0, none⟩, some ⟨y2, 0, none⟩, u3, u4⟩ ⟨16, fillF c x j o, 16, l⟩ := rows_own rfl rfl (Or.inl rfl) (Or.inr rfl) HD.out.ne.1 HD.out.r1 HD.out.r2
        have hjk := HS.out
        have FIN : Hid _ := fin_givesN (z := w.heap.size + 1) (out := resN (takeOK ⟨16, c, 16, l⟩ o k) (taken ⟨16, c, 16, l⟩ o k) (takeAt ⟨16, c, 16, l⟩ k)) (w := w) (R := ⟨16, fillF c x j o, 16, l⟩) (v := (x : Int)) (Or.inl ⟨⟨HG.out, H1.out, H2.out, x, HF.out⟩, by show _ = BD.mk 16 (fillF c ((takeF ⟨16, c, 16, l⟩ k).getD 0) (bsz k) o) 16 l; rw [HF.out, ← hjk]; rfl, by show _ = (((takeF ⟨16, c, 16, l⟩ k).getD 0 : Nat) : Int); rw [HF.out]; rfl, rfl⟩) (by show 16 + 16 ≤ _; omega) HD.out.blw.drew (by omega) (own.blw (Blw.refl wr).drew) (fun x hx => by have : wr.drew.heap.size = wr.heap.size := World.size_drew _; rcases hx with rfl | rfl <;> omega)
        obtain ⟨t0, t1⟩ := get2 HD.out.rs
        have f0 := HD.out.rs.frozen 0
        have f1 := HD.out.rs.frozen 1
        have Q0 : ∀ w', Mod (fun b => b = w.heap.size + 1) wr w' → w'.cell? ⟨zb, 0, none⟩ = some (.slice (some ⟨y1, 0, none⟩) 16 u3) := fun w' hh => (get2 (HD.out.bx.mod hh (by have := HD.out.lo; omega))).1
        have Q1 : ∀ w', Mod (fun b => b = w.heap.size + 1) wr w' → w'.cell? ⟨zb, 1, none⟩ = some (.slice (some ⟨y2, 0, none⟩) 16 u4) := fun w' hh => (get2 (HD.out.bx.mod hh (by have := HD.out.lo; omega))).2
        have Q2 : ∀ w', Mod (fun b => b = w.heap.size + 1) wr w' → w'.cell? ⟨yl, 0, none⟩ = some (.int .i64 (x : Int)) := fun w' hh => ((HRL.out.mod HM.out HNY.out).mod hh HNR.out).cell (i := 0) (by omega)
        clear HD HM hz l1 l2 own hjk HRL
        go_wp2_with fail
        go_region_held3 (fun w' => Mod (fun b => b = w.heap.size + 1) wr w') ((first | assumption | exact (Blw.refl wr).drew.mod _ | exact (Mod.trans (by assumption) (set2_mod (X := fun b => b = w.heap.size + 1) _ rfl _ _)))) (fail)
        all_goals go_wp2_with fail
        all_goals exact bodyPost_ret (v := .tuple #[BV.val ⟨some ⟨y1, 0, none⟩, some ⟨y2, 0, none⟩, u3, u4⟩ ⟨16, fillF c x j o, 16, l⟩, .int .i64 (x : Int), .bool true]) (by simp [results, Try.results16, go_sem, t0, t1]) rfl FIN.out
end Go.Proofs.Ytfmmpddknanhbaa
