/- What stands in a drawn law on tables. -/
import Derived.Test.YtbnencabjechjaaDrawT
import Derived.Test.YtbnencabjechjaaFactL
import Derived.Test.YtbnencabjechjaaImplM
import Derived.Test.YtbnencabjechjaaSpecMp
import Derived.Test.YtbnencabjechjaaLawGood
namespace Go.Proofs.Ytbnencabjechjaa
open Go.RowKit
set_option linter.unusedSimpArgs false
set_option linter.unusedVariables false
/-- A table and its box. -/
structure BX (W : World) (z : Nat) (b : BV) (B : BD) : Prop where
  at_ : BookAt (fun x => x < W.heap.size) W b B
  box : Row W z 2 (fun i => if i = 0 then .slice b.a1 B.n b.c1 else .slice b.a2 B.D.n b.c2)
theorem BX.blw {W W' : World} {z : Nat} {b : BV} {B : BD} (h : BX W z b B) (hb : Blw W W') : BX W' z b B :=
  ⟨(h.at_.blw hb).mono (fun x hx => Nat.lt_of_lt_of_le hx hb.size), h.box.blw hb⟩
theorem BX.all {W : World} {z : Nat} {b : BV} {B : BD} (h : BX W z b B) : (∀ w', Blw W w' → w'.cell? ⟨z, 0, none⟩ = some (.slice b.a1 B.n b.c1)) ∧ (∀ w', Blw W w' → w'.cell? ⟨z, 1, none⟩ = some (.slice b.a2 B.D.n b.c2)) :=
  ⟨fun w' hb => (get2 (h.box.blw hb)).1, fun w' hb => (get2 (h.box.blw hb)).2⟩
def LI (W : World) (a : Option Addr) (n : Nat) (f : Nat → Int) : Prop := IntsAt (fun x => x < W.heap.size) W a n f
theorem LI.blw {W W' : World} {a : Option Addr} {n : Nat} {f : Nat → Int} (h : LI W a n f) (hb : Blw W W') : LI W' a n f := (IntsAt.blw h hb).mono (fun x hx => Nat.lt_of_lt_of_le hx hb.size)
def BY (W : World) (a : Option Addr) (n : Nat) (f : Nat → Int) : Prop := BytesAt (fun b => b < W.heap.size) W a n f
theorem BY.blw {W W' : World} {a : Option Addr} {n : Nat} {f : Nat → Int} (h : BY W a n f) (hb : Blw W W') : BY W' a n f := bytes_more h hb
theorem same39 (a1 a2 : Option Addr) (c1 c2 n0 : Nat) (f g : Nat → Int) {Y Z : Nat → Prop} (w : World) (h1 : IntsAt Y w a1 n0 f) (h2 : IntsAt Z w a2 n0 g) (he : ∀ i, i < n0 → f i = g i) :
    Calls Try.prog 39 #[.slice a1 n0 c1, .slice a2 n0 c2] w fun e w' => e = .returned (.bool true) ∧ Blw w w' :=
  (sameInts_yes a1 a2 c1 c2 n0 f g w h1 h2 he).mono fun e w' ⟨he, n, hw⟩ => ⟨he, by subst hw; exact (Blw.refl _).drewN n⟩
theorem neq73 (x y : Int) (w : World) : (binOp .neq 73 (.agg #[.int .i64 x, .int .i64 y]) (.agg #[.int .i64 x, .int .i64 y])).run Try.prog w = .ok (.bool false) w := by
  rw [run_neq_struct, pairEq 9998 x y x y w]
  simp
set_option maxRecDepth 10000 in
set_option maxHeartbeats 3200000 in
theorem sameTable_same (b b' : BV) (B : BD) {Y Z : Nat → Prop} (w : World) (h1 : BookAt Y w b B) (h2 : BookAt Z w b' B) :
    Calls Try.prog 16 #[b.val B, b'.val B] w fun e w' => e = .returned (.bool true) ∧ Blw w w' := by
  have hb0 : Blw w ((w.alloc (.cells #[.slice b.a1 B.n b.c1, .slice b.a2 B.D.n b.c2] 26)).alloc (.cells #[.slice b'.a1 B.n b'.c1, .slice b'.a2 B.D.n b'.c2] 26)) := ((Blw.refl _).alloc _).alloc _
  have HA : Hid (BookAt Y ((w.alloc (.cells #[.slice b.a1 B.n b.c1, .slice b.a2 B.D.n b.c2] 26)).alloc (.cells #[.slice b'.a1 B.n b'.c1, .slice b'.a2 B.D.n b'.c2] 26)) b B) := h1.blw hb0
  have HB : Hid (BookAt Z ((w.alloc (.cells #[.slice b.a1 B.n b.c1, .slice b.a2 B.D.n b.c2] 26)).alloc (.cells #[.slice b'.a1 B.n b'.c1, .slice b'.a2 B.D.n b'.c2] 26)) b' B) := h2.blw hb0
  have R0 : Hid (Row ((w.alloc (.cells #[.slice b.a1 B.n b.c1, .slice b.a2 B.D.n b.c2] 26)).alloc (.cells #[.slice b'.a1 B.n b'.c1, .slice b'.a2 B.D.n b'.c2] 26)) w.heap.size 2 (fun i => if i = 0 then .slice b.a1 B.n b.c1 else .slice b.a2 B.D.n b.c2)) := (box2 w _ _ 26).blw ((Blw.refl _).alloc _)
  have r1 := box2 (w.alloc (.cells #[.slice b.a1 B.n b.c1, .slice b.a2 B.D.n b.c2] 26)) (.slice b'.a1 B.n b'.c1) (.slice b'.a2 B.D.n b'.c2) 26
  rw [World.size_alloc] at r1
  have R1 : Hid (Row ((w.alloc (.cells #[.slice b.a1 B.n b.c1, .slice b.a2 B.D.n b.c2] 26)).alloc (.cells #[.slice b'.a1 B.n b'.c1, .slice b'.a2 B.D.n b'.c2] 26)) (w.heap.size + 1) 2 (fun i => if i = 0 then .slice b'.a1 B.n b'.c1 else .slice b'.a2 B.D.n b'.c2)) := r1
  clear h1 h2 r1
  obtain ⟨n, c, ⟨kn, len, p, m⟩⟩ := B
  dsimp only at *
  go_enter Try.func16, Try.ntmps16
  obtain ⟨p0, p1⟩ := get2 R0.out
  obtain ⟨q0, q1⟩ := get2 R1.out
  go_wp2_with fail
  clear p0 p1 q0 q1
  refine (same39 b.a1 b'.a1 b.c1 b'.c1 n c c _ HA.out.c HB.out.c (fun _ _ => rfl)).mono ?_
  rintro e w1 ⟨rfl, hb1⟩
  replace HA : Hid (BookAt Y w1 b ⟨n, c, ⟨kn, len, p, m⟩⟩) := HA.out.blw hb1
  replace HB : Hid (BookAt Z w1 b' ⟨n, c, ⟨kn, len, p, m⟩⟩) := HB.out.blw hb1
  replace R0 : Hid (Row w1 w.heap.size 2 (fun i => if i = 0 then .slice b.a1 n b.c1 else .slice b.a2 kn b.c2)) := R0.out.blw hb1
  replace R1 : Hid (Row w1 (w.heap.size + 1) 2 (fun i => if i = 0 then .slice b'.a1 n b'.c1 else .slice b'.a2 kn b'.c2)) := R1.out.blw hb1
  have HW : Hid (Blw w w1) := hb0.trans hb1
  have hkn := HA.out.l.1
  dsimp only at hkn
  clear hb0 hb1
  obtain ⟨p0, p1⟩ := get2 R0.out
  obtain ⟨q0, q1⟩ := get2 R1.out
  have dk : ((kn : Int) != (kn : Int)) = false := by simp
  go_wp2_with fail
  clear p0 p1 q0 q1 dk
  go_loopw [25] (fun i wr => ∃ k : Nat, k ≤ kn ∧ i = .int .i64 k ∧ Blw w1 wr) (fun i _ => kn - (intOf i).toNat)
  case atStart => exact ⟨0, Nat.zero_le _, rfl, Blw.refl _⟩
  case round =>
    obtain ⟨k, hk, rfl, hb⟩ := hrel
    have HBW : Hid (Blw w1 wr) := hb
    clear hb
    by_cases hlt : k < kn
    · have hlt' : (k : Int) < (kn : Int) := by omega
      obtain ⟨x1, y1, e1, ce1, ea1, -, g1, k1⟩ := HA.out.l.2 k hlt
      obtain ⟨x2, y2, e2, ce2, ea2, -, g2, k2⟩ := HB.out.l.2 k hlt
      dsimp only at ea1 ea2 g1 g2 k1 k2
      have G1 : Hid (w1.cell? ⟨x1, y1 + k, none⟩ = some (.slice e1 (len k) ce1)) := g1
      have G2 : Hid (w1.cell? ⟨x2, y2 + k, none⟩ = some (.slice e2 (len k) ce2)) := g2
      have K1 : Hid (UndosAt Y w1 e1 (len k) (p k) (m k)) := k1
      have K2 : Hid (UndosAt Z w1 e2 (len k) (p k) (m k)) := k2
      have hlk := k1.1
      clear g1 g2 k1 k2
      generalize len k = lk at *
      have R0w := R0.out.blw HBW.out
      have R1w := R1.out.blw HBW.out
      rw [ea1] at R0w
      rw [ea2] at R1w
      obtain ⟨p0, p1⟩ := get2 R0w
      obtain ⟨q0, q1⟩ := get2 R1w
      have g1 := HBW.out.cell G1.out
      have g2 := HBW.out.cell G2.out
      have dl : ((lk : Int) != (lk : Int)) = false := by simp
      clear R0w R1w
      go_wp2_with fail
      go_quiet (fail)
      clear p0 p1 q0 q1 g1 g2
      replace HBW : Hid (Blw w1 (wr.drewN nq)) := HBW.out.drewN nq
      clear dl
      generalize wr.drewN nq = wq at *
      have R0w := R0.out.blw HBW.out
      have R1w := R1.out.blw HBW.out
      rw [ea1] at R0w
      rw [ea2] at R1w
      obtain ⟨p0, p1⟩ := get2 R0w
      obtain ⟨q0, q1⟩ := get2 R1w
      have g1 := HBW.out.cell G1.out
      have g2 := HBW.out.cell G2.out
      clear R0w R1w
      go_wp2_with fail
      clear p0 p1 q0 q1 g1 g2
      go_loopw [47] (fun i wr2 => ∃ t : Nat, t ≤ lk ∧ i = .int .i64 t ∧ Blw w1 wr2) (fun i _ => lk - (intOf i).toNat)
      case atStart => exact ⟨0, Nat.zero_le _, rfl, HBW.out⟩
      case round =>
        clear HBW
        obtain ⟨t, ht, rfl, hb⟩ := hrel
        have HBW : Hid (Blw w1 wr) := hb
        clear hb
        by_cases hlt2 : t < lk
        · have hlt2' : (t : Int) < (lk : Int) := by omega
          obtain ⟨u1, v1, eb1, -, l1, l2⟩ := K1.out.2 t hlt2
          obtain ⟨u2, v2, eb2, -, l3, l4⟩ := K2.out.2 t hlt2
          subst eb1 eb2
          replace l1 := HBW.out.cell l1
          replace l2 := HBW.out.cell l2
          replace l3 := HBW.out.cell l3
          replace l4 := HBW.out.cell l4
          have R0w := R0.out.blw HBW.out
          have R1w := R1.out.blw HBW.out
          rw [ea1] at R0w
          rw [ea2] at R1w
          obtain ⟨p0, p1⟩ := get2 R0w
          obtain ⟨q0, q1⟩ := get2 R1w
          have g1 := HBW.out.cell G1.out
          have g2 := HBW.out.cell G2.out
          have hne := neq73 (p k t) (m k t)
          clear R0w R1w
          generalize p k t = pv at *
          generalize m k t = mv at *
          go_wp2_with fail
          go_quiet (fail)
          clear p0 p1 q0 q1 g1 g2 l1 l2 l3 l4 hne
          replace HBW : Hid (Blw w1 (wr.drewN nq)) := HBW.out.drewN nq
          go_wp2
          go_roundw
          case rel => exact ⟨t + 1, by omega, by go_num, HBW.out⟩
          case measure => simp [intOf]; omega
        · obtain rfl : t = lk := by omega
          go_wp2
          go_roundw
          case rel => exact ⟨k + 1, by omega, by go_num, HBW.out⟩
          case measure => simp [intOf]; omega
    · obtain rfl : k = kn := by omega
      have FIN : Hid (Blw w wr) := HW.out.trans HBW.out
      clear HBW HA HB R0 R1
      go_wp2
      go_ret
      exact ⟨rfl, FIN.out⟩
end Go.Proofs.Ytbnencabjechjaa
