/- The law on PlayWalker. -/
import Derived.Test.YtbpdopcdhnemfaaJw9
namespace Go.Proofs.Ytbpdopcdhnemfaa
open Go.RowKit
set_option linter.unusedSimpArgs false
set_option linter.unusedVariables false
theorem kat_stW {K : Nat} {Y : Nat → Prop} {W : World} {ao : Option Addr} {n : Nat} {F : Nat → Nat → Int} (h : KAt K Y W ao n F) (hY : ∀ b, Y b → b < W.heap.size) : St Y (fun W => KAt K Y W ao n F) W :=
  ⟨hY, fun Z w' hm hx => h.mod hm hx⟩
theorem kown_stW {K : Nat} {Y : Nat → Prop} {W : World} {ao : Option Addr} {n : Nat} {F : Nat → Nat → Int} (h : KOwn K Y W ao n F) (hY : ∀ b, Y b → b < W.heap.size) : St Y (fun W => KOwn K Y W ao n F) W :=
  ⟨hY, fun Z w' hm hx => h.mod hm hx⟩
theorem kown_rowW {lo : Nat} {W : World} {z n : Nat} {F : Nat → Nat → Int} (hn : n ≤ 1048576) (h : Row W z (n * 4) (kc 4 F)) (hz : lo ≤ z) : KOwn 4 (fun x => lo ≤ x ∧ x < W.heap.size) W (some ⟨z, 0, none⟩) n F :=
  ⟨by omega, fun _ => ⟨z, ⟨hz, h.lt⟩, rfl, h⟩⟩
/-- The model's answer. -/
def PA3 (lim z : Nat) (v : KV) (D : KD) (u : Option Addr) (m : Nat) (f : Nat → Int) (W : World) : Prop := Row W z 4 (kb v D) ∧ WkAt (fun x => x < lim) W v D ∧ IntsAt (fun x => x < lim) W u m f
theorem pa3_st {lim z : Nat} {v : KV} {D : KD} {u : Option Addr} {m : Nat} {f : Nat → Int} {W : World} (hz : z < lim) (hl : lim ≤ W.heap.size) (h : PA3 lim z v D u m f W) : St (fun x => x < lim) (PA3 lim z v D u m f) W :=
  ⟨fun b hb => Nat.lt_of_lt_of_le hb hl, fun Z w' hm hx => ⟨h.1.mod hm (hx z hz), h.2.1.mod hm hx, h.2.2.mod hm hx⟩⟩
/-- The program's answer. -/
def PA5 (z : Nat) (X1 X2 : Nat → Prop) (v : KV) (D D2 : KD) (u : Option Addr) (m : Nat) (g : Nat → Int) (W : World) : Prop := Row W z 4 (kb v D) ∧ WkOwn X1 W v D2 ∧ IntsOwn X2 W u m g
theorem pa5_st {c d z : Nat} {X1 X2 : Nat → Prop} {v : KV} {D D2 : KD} {u : Option Addr} {m : Nat} {g : Nat → Int} {W : World} (hz : c ≤ z ∧ z < d) (h1 : ∀ x, X1 x → c ≤ x ∧ x < d) (h2 : ∀ x, X2 x → c ≤ x ∧ x < d) (hl : d ≤ W.heap.size) (h : PA5 z X1 X2 v D D2 u m g W) : St (fun x => c ≤ x ∧ x < d) (PA5 z X1 X2 v D D2 u m g) W :=
  ⟨fun b hb => Nat.lt_of_lt_of_le hb.2 hl, fun Z w' hm hx => ⟨h.1.mod hm (hx z hz), h.2.1.mod hm (fun b hb => hx b (h1 b hb)), h.2.2.mod hm (fun b hb => hx b (h2 b hb))⟩⟩
theorem ints_st_wk {X : Nat → Prop} {ao : Option Addr} {n : Nat} {f g : Nat → Int} {W : World} (h : IntsOwn X W ao n f) (e : ∀ i, i < n → f i = g i) : IntsOwn X W ao n g := h.congr e
set_option maxRecDepth 10000 in
set_option maxHeartbeats 6400000 in
theorem lawPW (k : Int) (ao : Option Addr) (n c : Nat) (F : Nat → Nat → Int) (w : World) (h : KAt 4 (fun x => x < w.heap.size) w ao n F) : Calls Try.prog 7 #[.int .i64 k, .slice ao n c] w fun e w' => e = .returned (.bool true) ∧ Blw w w' := by
  have HA : Hid (St (fun x => x < w.heap.size) (fun W => KAt 4 (fun x => x < w.heap.size) W ao n F) w) := kat_stW h (fun x hx => hx)
  have hn := h.1
  clear h
  go_enter Try.func7, Try.ntmps7
  go_wp2_with fail
  refine (szWs_any ao c n 1048576 _ hn (by omega) (by omega)).mono ?_
  rintro e w1 ⟨r, rfl, hr, hb1⟩
  replace HA : Hid (St (fun x => x < w.heap.size) (fun W => KAt 4 (fun x => x < w.heap.size) W ao n F) w1) := HA.out.blw hb1
  rcases hr with rfl | ⟨q0, q1⟩
  · go_wp2
    go_ret
    exact ⟨rfl, hb1⟩
  have HS : Hid (n ≤ 1048576) := by show n ≤ _; omega
  clear q1
  go_wp2_with fail
  clear q0
  refine (toWs_any ao c n F _ _ HS.out HA.out.out).mono ?_
  rintro e w2 ⟨rfl, hr2, hb2⟩
  have own2 := kown_rowW HS.out hr2 (Nat.le_refl _)
  replace HA : Hid (St (fun x => x < w.heap.size) (fun W => KAt 4 (fun x => x < w.heap.size) W ao n F) w2) := HA.out.blw hb2
  replace hb2 := hb1.trans hb2
  clear hb1 hr2
  go_wp2_with fail
  refine (specPW_any k _ n n F _ HS.out (own2.at.mono (fun x hx => hx.2))).mono ?_
  rintro e w3 ⟨v3, D3, a3, m, c3, f, r3, rfl, ho3, hs3, hw3, hi3, hb3⟩
  have HO3 : Hid (pwO k n F D3 m f r3) := ho3
  have HSM : Hid (D3.small ∧ m ≤ 1048576) := hs3
  have hA3 : Blw w3 (w3.alloc (.cells #[.slice v3.b.a1 D3.B.n v3.b.c1, .slice v3.b.a2 D3.B.D.n v3.b.c2, .slice v3.a D3.n v3.q, .int .i64 D3.h] 32)) := (Blw.refl _).alloc _
  have r3b := box4 w3 (.slice v3.b.a1 D3.B.n v3.b.c1) (.slice v3.b.a2 D3.B.D.n v3.b.c2) (.slice v3.a D3.n v3.q) (.int .i64 D3.h) 32
  have HP3 : Hid (St (fun x => x < (w3.alloc (.cells #[.slice v3.b.a1 D3.B.n v3.b.c1, .slice v3.b.a2 D3.B.D.n v3.b.c2, .slice v3.a D3.n v3.q, .int .i64 D3.h] 32)).heap.size) (PA3 (w3.alloc (.cells #[.slice v3.b.a1 D3.B.n v3.b.c1, .slice v3.b.a2 D3.B.D.n v3.b.c2, .slice v3.a D3.n v3.q, .int .i64 D3.h] 32)).heap.size w3.heap.size v3 D3 a3 m f) (w3.alloc (.cells #[.slice v3.b.a1 D3.B.n v3.b.c1, .slice v3.b.a2 D3.B.D.n v3.b.c2, .slice v3.a D3.n v3.q, .int .i64 D3.h] 32))) := pa3_st r3b.lt (Nat.le_refl _) ⟨r3b, (hw3.blw hA3).mono (fun x hx => Nat.lt_of_lt_of_le hx hA3.size), (hi3.blw hA3).mono (fun x hx => Nat.lt_of_lt_of_le hx hA3.size)⟩
  replace HA : Hid (St (fun x => x < w.heap.size) (fun W => KAt 4 (fun x => x < w.heap.size) W ao n F) (w3.alloc (.cells #[.slice v3.b.a1 D3.B.n v3.b.c1, .slice v3.b.a2 D3.B.D.n v3.b.c2, .slice v3.a D3.n v3.q, .int .i64 D3.h] 32))) := HA.out.blw (hb3.trans hA3)
  replace hb3 := (hb2.trans hb3).trans hA3
  have HZ3 : Hid (w.heap.size ≤ (w3.alloc (.cells #[.slice v3.b.a1 D3.B.n v3.b.c1, .slice v3.b.a2 D3.B.D.n v3.b.c2, .slice v3.a D3.n v3.q, .int .i64 D3.h] 32)).heap.size) := hb3.size
  clear hb2 own2 ho3 hw3 hi3 hs3 hA3 r3b
  go_wp2_with fail
  generalize (w3.alloc (.cells #[.slice v3.b.a1 D3.B.n v3.b.c1, .slice v3.b.a2 D3.B.D.n v3.b.c2, .slice v3.a D3.n v3.q, .int .i64 D3.h] 32)) = x3 at *
  generalize w3.heap.size = z3b at *
  refine (toWs_any ao c n F _ _ HS.out HA.out.out).mono ?_
  rintro e w4 ⟨rfl, hr4, hb4⟩
  have HP4 : Hid (St (fun x => x3.heap.size ≤ x ∧ x < w4.heap.size) (fun W => KOwn 4 (fun x => x3.heap.size ≤ x ∧ x < w4.heap.size) W (some ⟨x3.heap.size, 0, none⟩) n F) w4) := kown_stW (kown_rowW HS.out hr4 (Nat.le_refl _)) (fun x hx => hx.2)
  replace HA : Hid (St (fun x => x < w.heap.size) (fun W => KAt 4 (fun x => x < w.heap.size) W ao n F) w4) := HA.out.blw hb4
  replace HP3 : Hid (St (fun x => x < x3.heap.size) (PA3 x3.heap.size z3b v3 D3 a3 m f) w4) := HP3.out.blw hb4
  have HZ4 : Hid (x3.heap.size ≤ w4.heap.size) := hb4.size
  replace hb4 := hb3.trans hb4
  clear hb3 hr4
  go_wp2_with fail
  refine (implPW_any k _ n n F _ HS.out (HP4.out.out.at.mono (fun x hx => hx.2))).mono ?_
  rintro e w5 ⟨v5, D5, a5, m5, c5, f5, r5, rfl, ho5, hs5, ⟨X1, X2, hx1, hx2, hw5, hi5⟩, hb5⟩
  obtain ⟨eD, em, er, ef⟩ := pwO_same ho5 HO3.out
  subst eD em er
  have hA5 : Blw w5 (w5.alloc (.cells #[.slice v5.b.a1 D5.B.n v5.b.c1, .slice v5.b.a2 D5.B.D.n v5.b.c2, .slice v5.a D5.n v5.q, .int .i64 D5.h] 32)) := (Blw.refl _).alloc _
  have r5b := box4 w5 (.slice v5.b.a1 D5.B.n v5.b.c1) (.slice v5.b.a2 D5.B.D.n v5.b.c2) (.slice v5.a D5.n v5.q) (.int .i64 D5.h) 32
  have z45 := hb5.size
  have z55 : w5.heap.size < (w5.alloc (.cells #[.slice v5.b.a1 D5.B.n v5.b.c1, .slice v5.b.a2 D5.B.D.n v5.b.c2, .slice v5.a D5.n v5.q, .int .i64 D5.h] 32)).heap.size := r5b.lt
  have HX : Hid ((∀ x, X1 x → w4.heap.size ≤ x ∧ x < (w5.alloc (.cells #[.slice v5.b.a1 D5.B.n v5.b.c1, .slice v5.b.a2 D5.B.D.n v5.b.c2, .slice v5.a D5.n v5.q, .int .i64 D5.h] 32)).heap.size ∧ x ≠ w5.heap.size) ∧ (∀ x, X2 x → w4.heap.size ≤ x ∧ x < (w5.alloc (.cells #[.slice v5.b.a1 D5.B.n v5.b.c1, .slice v5.b.a2 D5.B.D.n v5.b.c2, .slice v5.a D5.n v5.q, .int .i64 D5.h] 32)).heap.size ∧ x ≠ w5.heap.size ∧ ¬ X1 x) ∧ w4.heap.size ≤ w5.heap.size ∧ w5.heap.size < (w5.alloc (.cells #[.slice v5.b.a1 D5.B.n v5.b.c1, .slice v5.b.a2 D5.B.D.n v5.b.c2, .slice v5.a D5.n v5.q, .int .i64 D5.h] 32)).heap.size) := ⟨fun x hx => by have := hx1 x hx; omega, fun x hx => by have := hx2 x hx; exact ⟨by omega, by omega, by omega, this.2⟩, by omega, z55⟩
  have HL : Hid (LawF w (w5.alloc (.cells #[.slice v5.b.a1 D5.B.n v5.b.c1, .slice v5.b.a2 D5.B.D.n v5.b.c2, .slice v5.a D5.n v5.q, .int .i64 D5.h] 32)) w.heap.size x3.heap.size w4.heap.size (w5.alloc (.cells #[.slice v5.b.a1 D5.B.n v5.b.c1, .slice v5.b.a2 D5.B.D.n v5.b.c2, .slice v5.a D5.n v5.q, .int .i64 D5.h] 32)).heap.size (fun W => KAt 4 (fun x => x < w.heap.size) W ao n F) (PA3 x3.heap.size z3b v3 D5 a3 m5 f) (fun W => KOwn 4 (fun x => x3.heap.size ≤ x ∧ x < w4.heap.size) W (some ⟨x3.heap.size, 0, none⟩) n F) (PA5 w5.heap.size X1 X2 v5 D5 D5 a5 m5 f)) := by
    have h3 := HZ3.out
    have h4 := HZ4.out
    exact ⟨hb4.trans (hb5.trans hA5), HA.out.blw (hb5.trans hA5), HP3.out.blw (hb5.trans hA5), HP4.out.blw (hb5.trans hA5), pa5_st ⟨by omega, z55⟩ (fun x hx => by have := hx1 x hx; omega) (fun x hx => by have := hx2 x hx; omega) (Nat.le_refl _) ⟨r5b, hw5.blw hA5, (hi5.congr ef).blw hA5⟩, by omega⟩
  clear HA HP3 HP4 hb4 hb5 hw5 hi5 z45 z55 ho5 HZ3 ef hA5 r5b hx1 hx2 hs5
  have hne : (r5 != r5) = false := by simp
  obtain ⟨p0, p1, p2, p3⟩ := get4 HL.out.p5.out.1
  obtain ⟨q0, q1, q2, q3⟩ := get4 HL.out.p3.out.1
  go_wp2_with fail
  clear p0 p1 p2 p3 q0 q1 q2 q3
  generalize (w5.alloc (.cells #[.slice v5.b.a1 D5.B.n v5.b.c1, .slice v5.b.a2 D5.B.D.n v5.b.c2, .slice v5.a D5.n v5.q, .int .i64 D5.h] 32)) = x5 at *
  generalize w5.heap.size = z5b at *
  refine (eqWalker_same v5 v3 D5 _ HL.out.p5.out.2.1.at HL.out.p3.out.2.1).mono ?_
  rintro e w60 ⟨rfl, hq⟩
  replace HL : Hid (LawF w w60 _ _ _ _ _ _ _ _) := HL.out.blw hq
  clear hq
  go_wp2_with fail
  refine (eqIntS_same _ _ _ _ m5 f _ HL.out.p5.out.2.2.at HL.out.p3.out.2.2).mono ?_
  rintro e w61 ⟨rfl, dq, rfl⟩
  replace HL : Hid (LawF w (w60.drewN dq) _ _ _ _ _ _ _ _) := HL.out.blw (drewN_blw w60 dq)
  revert HL
  generalize w60.drewN dq = w6
  intro HL
  generalize x3.heap.size = z3 at *
  generalize w4.heap.size = z4 at *
  generalize x5.heap.size = z5 at *
  go_wp2_with fail
  refine (toWs_any ao c n F _ _ HS.out HL.out.p1.out).mono ?_
  rintro e w7 ⟨rfl, hr7, hb7⟩
  have own7 := kown_rowW (lo := 0) HS.out hr7 (Nat.zero_le _)
  replace HL : Hid (LawF w w7 _ _ _ _ _ _ _ _) := HL.out.blw hb7
  clear hb7 hr7
  generalize w6.heap.size = z6 at *
  go_wp2_with fail
  refine (eqWs_same _ _ _ _ n F _ HL.out.p4.out.at own7.at).mono ?_
  rintro e w8 ⟨rfl, hb8⟩
  replace HL : Hid (LawF w w8 _ _ _ _ _ _ _ _) := HL.out.blw hb8
  clear hb8 own7
  go_wp2_with fail
  refine (markWs_any _ _ n F _ 1 _ (by omega) (by have := HS.out; omega) HL.out.p4.out).mono ?_
  rintro e w9 ⟨rfl, own4, hm9⟩
  have h9 := hm9.size
  replace HL : Hid (LawF w w9 _ _ _ _ _ _ _ _) := HL.out.mark4 (P4' := fun W => KOwn 4 (fun x => z3 ≤ x ∧ x < z4) W (some ⟨z3, 0, none⟩) n (mkK 4 1)) hm9 (fun x hx => hx) (kown_stW own4 (fun x hx => by have := HL.out.o; omega))
  clear own4 hm9 h9
  have k1 : ¬ (1 + 4 * (n : Int) < 0) := by omega
  obtain ⟨p0, p1, p2, p3⟩ := get4 HL.out.p5.out.1
  obtain ⟨q0, q1, q2, q3⟩ := get4 HL.out.p3.out.1
  go_wp2_with fail
  clear p0 p1 p2 p3 q0 q1 q2 q3
  refine (eqWalker_same v5 v3 D5 _ HL.out.p5.out.2.1.at HL.out.p3.out.2.1).mono ?_
  rintro e w100 ⟨rfl, hq⟩
  replace HL : Hid (LawF w w100 _ _ _ _ _ _ _ _) := HL.out.blw hq
  clear hq
  go_wp2_with fail
  refine (eqIntS_same _ _ _ _ m5 f _ HL.out.p5.out.2.2.at HL.out.p3.out.2.2).mono ?_
  rintro e w101 ⟨rfl, dq, rfl⟩
  replace HL : Hid (LawF w (w100.drewN dq) _ _ _ _ _ _ _ _) := HL.out.blw (drewN_blw w100 dq)
  revert HL
  generalize w100.drewN dq = w10
  intro HL
  clear k1
  obtain ⟨p0, p1, p2, p3⟩ := get4 HL.out.p5.out.1
  go_wp2_with fail
  clear p0 p1 p2 p3
  have HTT : Hid (0 ≤ D5.total ∧ D5.total ≤ 8388608) := ⟨Nat.zero_le _, by have h1 := HSM.out.1.1; have h2 := HSM.out.1.2; unfold KD.total BD.total; omega⟩
  have htt := HTT.out
  have hmm := HSM.out.2
  generalize htd : (D5.total) = td at *
  have HTD : Hid (D5.total = td) := htd
  clear htd
  refine (markWalker_any v5 D5 X1 _ HSM.out.1 (fun b hb => by have := HX.out.1 b hb; have := HL.out.o; omega) HL.out.p5.out.2.1).mono ?_
  rw [HTD.out]
  rintro e w11 ⟨rfl, own5, hm10⟩
  have h10 := hm10.size
  have HX1 : Hid (∀ x, X1 x → z4 ≤ x ∧ x < z5) := fun x hx => by have := HX.out.1 x hx; omega
  have HX2 : Hid (∀ x, X2 x → z4 ≤ x ∧ x < z5) := fun x hx => by have := HX.out.2.1 x hx; omega
  have HXB : Hid (z4 ≤ z5b ∧ z5b < z5) := by have := HX.out.2.2; show _ ∧ _; omega
  replace HL : Hid (LawF w w11 _ _ _ _ _ _ _ _) := HL.out.mark5 (P5' := PA5 z5b X1 X2 v5 D5 (D5.marked 1) a5 m5 f) hm10 HX1.out (pa5_st HXB.out HX1.out HX2.out (by have := HL.out.o; omega) ⟨HL.out.p5.out.1.mod hm10 (fun e => (HX.out.1 _ e).2.2 rfl), own5, HL.out.p5.out.2.2.mod hm10 (fun b hb e => (HX.out.2.1 b hb).2.2.2 e)⟩)
  clear own5 hm10 h10
  go_wp2_with fail
  refine (markIntS_any _ _ m5 f _ (1 + (td : Int)) _ (by omega) (by omega) HL.out.p5.out.2.2).mono ?_
  rintro e w12 ⟨rfl, own5, hm10⟩
  have h10 := hm10.size
  replace HL : Hid (LawF w w12 _ _ _ _ _ _ _ _) := HL.out.mark5 (P5' := PA5 z5b X1 X2 v5 D5 (D5.marked 1) a5 m5 (fun i => (1 + (td : Int)) + (i : Int))) hm10 (fun x hx => HX2.out x hx.1) (pa5_st HXB.out HX1.out HX2.out (by have := HL.out.o; omega) ⟨HL.out.p5.out.1.mod hm10 (fun e => (HX.out.2.1 _ e.1).2.2.1 rfl), HL.out.p5.out.2.1.mod hm10 (fun b hb e => (HX.out.2.1 b e.1).2.2.2 hb), own5⟩)
  clear own5 hm10 h10
  have k1 : ¬ (1 + (td : Int) < 0) := by omega
  have k2 : ¬ (1 + (td : Int) + (m5 : Int) < 0) := by omega
  have k3 : ((1 + (td : Int) + (m5 : Int)) != (1 + (td : Int) + (m5 : Int))) = false := by simp
  obtain ⟨p0, p1, p2, p3⟩ := get4 HL.out.p5.out.1
  go_wp2_with fail
  clear p0 p1 p2 p3
  refine (heldWalker_any v5 D5 X1 _ HSM.out.1 HL.out.p5.out.2.1).mono ?_
  rw [HTD.out]
  rintro e w20 ⟨rfl, hb11⟩
  replace HL : Hid (LawF w w20 _ _ _ _ _ _ _ _) := HL.out.blw hb11
  clear hb11
  go_wp2_with fail
  refine (heldIntS_any _ _ m5 _ (1 + (td : Int)) _ (by omega) (by omega) HL.out.p5.out.2.2.at).mono ?_
  rintro e w21 ⟨rfl, hb11⟩
  replace HL : Hid (LawF w w21 _ _ _ _ _ _ _ _) := HL.out.blw hb11
  clear hb11
  go_wp2_with fail
  refine (toWs_any ao c n F _ _ HS.out HL.out.p1.out).mono ?_
  rintro e w13 ⟨rfl, hr7, hb7⟩
  have own7 := kown_rowW (lo := 0) HS.out hr7 (Nat.zero_le _)
  replace HL : Hid (LawF w w13 _ _ _ _ _ _ _ _) := HL.out.blw hb7
  clear hb7 hr7
  generalize w21.heap.size = z21 at *
  go_wp2_with fail
  refine (implPW_any k _ n n F _ HS.out (own7.at.mono (fun x hx => hx.2))).mono ?_
  rintro e w14 ⟨v8, D8, a8, m8, c8, f8, r8, rfl, ho8, hs8, ⟨Y1, Y2, hy1, hy2, hw8, hi8⟩, hb13⟩
  obtain ⟨eD, em, er, ef⟩ := pwO_same ho8 HO3.out
  have hi9 := hi8.congr ef
  clear ef hi8 ho8 hs8
  subst eD em er
  have hA8 : Blw w14 (w14.alloc (.cells #[.slice v8.b.a1 D8.B.n v8.b.c1, .slice v8.b.a2 D8.B.D.n v8.b.c2, .slice v8.a D8.n v8.q, .int .i64 D8.h] 32)) := (Blw.refl _).alloc _
  have r8b := box4 w14 (.slice v8.b.a1 D8.B.n v8.b.c1) (.slice v8.b.a2 D8.B.D.n v8.b.c2) (.slice v8.a D8.n v8.q) (.int .i64 D8.h) 32
  replace HL : Hid (LawF w (w14.alloc (.cells #[.slice v8.b.a1 D8.B.n v8.b.c1, .slice v8.b.a2 D8.B.D.n v8.b.c2, .slice v8.a D8.n v8.q, .int .i64 D8.h] 32)) _ _ _ _ _ _ _ _) := HL.out.blw (hb13.trans hA8)
  have HR8 : Hid (Row (w14.alloc (.cells #[.slice v8.b.a1 D8.B.n v8.b.c1, .slice v8.b.a2 D8.B.D.n v8.b.c2, .slice v8.a D8.n v8.q, .int .i64 D8.h] 32)) w14.heap.size 4 (kb v8 D8)) := r8b
  have HW8 : Hid (WkAt _ (w14.alloc (.cells #[.slice v8.b.a1 D8.B.n v8.b.c1, .slice v8.b.a2 D8.B.D.n v8.b.c2, .slice v8.a D8.n v8.q, .int .i64 D8.h] 32)) v8 D8) := (hw8.blw hA8).at
  have HI8 : Hid (IntsAt _ (w14.alloc (.cells #[.slice v8.b.a1 D8.B.n v8.b.c1, .slice v8.b.a2 D8.B.D.n v8.b.c2, .slice v8.a D8.n v8.q, .int .i64 D8.h] 32)) a8 m8 f) := (hi9.blw hA8).at
  clear own7 hb13 hw8 hi9 r8b hA8 hy1 hy2
  obtain ⟨p0, p1, p2, p3⟩ := get4 HR8.out
  obtain ⟨q0, q1, q2, q3⟩ := get4 HL.out.p3.out.1
  go_wp2_with fail
  clear p0 p1 p2 p3 q0 q1 q2 q3
  generalize (w14.alloc (.cells #[.slice v8.b.a1 D8.B.n v8.b.c1, .slice v8.b.a2 D8.B.D.n v8.b.c2, .slice v8.a D8.n v8.q, .int .i64 D8.h] 32)) = x14 at *
  refine (eqWalker_same v8 v3 D8 _ HW8.out HL.out.p3.out.2.1).mono ?_
  rintro e w15 ⟨rfl, hq⟩
  replace HL : Hid (LawF w w15 _ _ _ _ _ _ _ _) := HL.out.blw hq
  have HI9 : Hid (IntsAt _ w15 a8 m8 f) := HI8.out.blw hq
  clear hq HI8 HW8 HR8
  go_wp2_with fail
  refine (eqIntS_same _ _ _ _ m8 f _ HI9.out HL.out.p3.out.2.2).mono ?_
  rintro e w16 ⟨rfl, dq, rfl⟩
  replace HL : Hid (LawF w (w15.drewN dq) _ _ _ _ _ _ _ _) := HL.out.blw (drewN_blw w15 dq)
  revert HL
  generalize w15.drewN dq = w16
  intro HL
  clear HI9
  obtain ⟨p0, p1, p2, p3⟩ := get4 HL.out.p5.out.1
  go_wp2_with fail
  clear p0 p1 p2 p3
  refine (heldWalker_any v5 D8 X1 _ HSM.out.1 HL.out.p5.out.2.1).mono ?_
  rw [HTD.out]
  rintro e w30 ⟨rfl, hb11⟩
  replace HL : Hid (LawF w w30 _ _ _ _ _ _ _ _) := HL.out.blw hb11
  clear hb11
  go_wp2_with fail
  refine (heldIntS_any _ _ m8 _ (1 + (td : Int)) _ (by omega) (by omega) HL.out.p5.out.2.2.at).mono ?_
  rintro e w31 ⟨rfl, hb11⟩
  replace HL : Hid (LawF w w31 _ _ _ _ _ _ _ _) := HL.out.blw hb11
  clear hb11
  go_wp2
  go_ret
  exact ⟨rfl, HL.out.hB⟩
end Go.Proofs.Ytbpdopcdhnemfaa
