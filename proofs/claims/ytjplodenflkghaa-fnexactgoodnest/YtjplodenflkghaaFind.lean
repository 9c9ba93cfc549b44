/- The leaf at a place: the model's and the program's. -/
import Derived.Test.YtjplodenflkghaaHold
namespace Go.Proofs.Ytjplodenflkghaa
open Go.RowKit
set_option linter.unusedSimpArgs false
set_option linter.unusedVariables false
def lfP (c : Nat → Int) (p : Nat → Nat → Int) (a : Nat) : Int := if 0 ≤ c (a / 4) then p (c (a / 4)).toNat (a % 4) else 0
theorem lfP_yes {c : Nat → Int} {p : Nat → Nat → Int} {a q : Nat} (h : c (a / 4) = (q : Int)) : lfP c p a = p q (a % 4) := by
  unfold lfP; rw [h, if_pos (by omega), Int.toNat_natCast]
theorem lfP_no {c : Nat → Int} {p : Nat → Nat → Int} {a : Nat} (h : ¬ 0 ≤ c (a / 4)) : lfP c p a = 0 := by unfold lfP; rw [if_neg h]
theorem set2w_blw {w W : World} {z : Nat} (h : Blw w W) (hz : w.heap.size ≤ z) (v0 v1 : Value) : Blw w ((W.setCell ⟨z, 0, none⟩ v0).setCell ⟨z, 1, none⟩ v1) := (h.setCell hz _).setCell hz _
set_option maxRecDepth 10000 in
set_option maxHeartbeats 3200000 in
theorem l6Find_any (b : BV) (c : Nat → Int) (kn : Nat) (len : Nat → Nat) (p m : Nat → Nat → Int) (a : Nat) (Y : Nat → Prop) (w : World) (g : BD.Good ⟨4, c, ⟨kn, len, p, m⟩⟩) (ha : a < 16) (h : BookAt Y w b ⟨4, c, ⟨kn, len, p, m⟩⟩) :
    Calls Try.prog 114 #[b.val ⟨4, c, ⟨kn, len, p, m⟩⟩, .int .i64 a] w fun e w' => e = .returned (.agg #[.int .i64 (lfP c p a), .int .i64 (lfP c m a)]) ∧ Blw w w' := by
  obtain ⟨a1, a2, q1, q2⟩ := b
  simp only [BV.val] at *
  have hb0 : Blw w ((w.alloc (.cells #[.slice a1 4 q1, .slice a2 kn q2] 29)).alloc (.cells #[.int .i64 0, .int .i64 0] 144)) := ((Blw.refl _).alloc _).alloc _
  have rA := (box2 w (.slice a1 4 q1) (.slice a2 kn q2) 29).blw ((Blw.refl _).alloc (.cells #[.int .i64 0, .int .i64 0] 144))
  have rR := box2 (w.alloc (.cells #[.slice a1 4 q1, .slice a2 kn q2] 29)) (.int .i64 0) (.int .i64 0) 144
  rw [World.size_alloc] at rR
  have hd : Int.tdiv (a : Int) 4 = ((a / 4 : Nat) : Int) := by rw [Int.tdiv_eq_ediv_of_nonneg (by omega)]; rfl
  have hr : Int.tmod (a : Int) 4 = ((a % 4 : Nat) : Int) := by rw [Int.tmod_eq_emod_of_nonneg (by omega)]; rfl
  have hd4 : a / 4 < 4 := by omega
  have hr4 : a % 4 < 4 := by omega
  have HC : Hid (IntsAt Y ((w.alloc (.cells #[.slice a1 4 q1, .slice a2 kn q2] 29)).alloc (.cells #[.int .i64 0, .int .i64 0] 144)) a1 4 c) := h.c.blw hb0
  have HL : Hid (PSAt Y ((w.alloc (.cells #[.slice a1 4 q1, .slice a2 kn q2] 29)).alloc (.cells #[.int .i64 0, .int .i64 0] 144)) a2 ⟨kn, len, p, m⟩) := h.l.blw hb0
  have hkn := h.l.1
  dsimp only at hkn
  clear h
  obtain ⟨bb, oo, ea, -, g1⟩ := HC.out.2 (a / 4) hd4
  subst ea
  clear HC
  have htop := g.top (a / 4) hd4
  dsimp only at htop
  have HGL : Hid (∀ i, i < kn → len i = 4) := fun i hi => (g.leaf i hi).1
  obtain ⟨p0, p1⟩ := get2 rA
  obtain ⟨t0, t1⟩ := get2 rR
  have f0 := rR.frozen 0
  have f1 := rR.frozen 1
  clear g
  have hd4' : ((a / 4 : Nat) : Int) < 4 := by omega
  have hr4' : ((a % 4 : Nat) : Int) < 4 := by omega
  by_cases h0 : 0 ≤ c (a / 4)
  · obtain ⟨q, hq⟩ : ∃ q : Nat, c (a / 4) = q := ⟨(c (a / 4)).toNat, by omega⟩
    have hqk : q < kn := by omega
    have hqk' : (q : Int) < (kn : Int) := by omega
    have E1 : Hid (lfP c p a = p q (a % 4)) := lfP_yes hq
    have E2 : Hid (lfP c m a = m q (a % 4)) := lfP_yes hq
    obtain ⟨b2, o2, aa, cc, ea, -, g2, g3⟩ := HL.out.2 q hqk
    dsimp only at g2 g3
    rw [HGL.out q hqk] at g2 g3
    subst ea
    obtain ⟨b3, o3, ea, -, g4, g5⟩ := g3.2 (a % 4) hr4
    subst ea
    rw [hq] at g1
    have HB : Hid (Blw w ((w.alloc (.cells #[.slice (some ⟨bb, oo, none⟩) 4 q1, .slice (some ⟨b2, o2, none⟩) kn q2] 29)).alloc (.cells #[.int .i64 0, .int .i64 0] 144))) := hb0
    clear h0 htop hq HL HGL g3 rA rR hb0
    generalize a / 4 = x at *
    generalize a % 4 = y at *
    go_enter Try.func114, Try.ntmps114
    go_wp2
    refine bodyPost_ret (v := .agg #[.int .i64 (p q y), .int .i64 (m q y)]) (by simp [results, Try.results114, go_sem, t0, t1]) rfl ?_
    refine ⟨by rw [E1.out, E2.out], ?_⟩
    first | exact ((Blw.refl _).alloc _).alloc _ | exact set2w_blw HB.out (by omega) _ _
  · have E1 : Hid (lfP c p a = 0) := lfP_no h0
    have E2 : Hid (lfP c m a = 0) := lfP_no h0
    have h0' : c (a / 4) < 0 := by omega
    clear h0 htop HL HGL rA rR
    generalize a / 4 = x at *
    generalize a % 4 = y at *
    generalize hcx : c x = cx at *
    go_enter Try.func114, Try.ntmps114
    go_wp2
    refine bodyPost_ret (v := .agg #[.int .i64 0, .int .i64 0]) (by simp [results, Try.results114, go_sem, t0, t1]) rfl ?_
    refine ⟨by rw [E1.out, E2.out], ?_⟩
    first | exact hb0 | exact ((Blw.refl _).alloc _).alloc _ | exact set2w_blw hb0 (by omega) _ _
end Go.Proofs.Ytjplodenflkghaa
