/- Tables that are alike but for a place. -/
import Derived.Test.YtbnencabjechjaaLawX
namespace Go.Proofs.Ytbnencabjechjaa
open Go.RowKit
set_option linter.unusedSimpArgs false
set_option linter.unusedVariables false
set_option maxRecDepth 10000 in
set_option maxHeartbeats 3200000 in
theorem sameElse_any (b b' : BV) (B B' : BD) (nt : Int) (w : World) (h1 : BookAt (fun x => x < w.heap.size) w b B) (h2 : BookAt (fun x => x < w.heap.size) w b' B') (hL : Like B B' nt) :
    Calls Try.prog 21 #[b.val B, b'.val B', .int .i64 nt] w fun e w' => e = .returned (.bool true) ∧ Blw w w' := by
  have hb0 : Blw w ((w.alloc (.cells #[.slice b.a1 B.n b.c1, .slice b.a2 B.D.n b.c2] 26)).alloc (.cells #[.slice b'.a1 B'.n b'.c1, .slice b'.a2 B'.D.n b'.c2] 26)) := ((Blw.refl _).alloc _).alloc _
  have HA : Hid (BX ((w.alloc (.cells #[.slice b.a1 B.n b.c1, .slice b.a2 B.D.n b.c2] 26)).alloc (.cells #[.slice b'.a1 B'.n b'.c1, .slice b'.a2 B'.D.n b'.c2] 26)) w.heap.size b B) := ⟨(h1.blw hb0).mono (fun x hx => Nat.lt_of_lt_of_le hx hb0.size), (box2 w _ _ 26).blw ((Blw.refl _).alloc _)⟩
  have r1 := box2 (w.alloc (.cells #[.slice b.a1 B.n b.c1, .slice b.a2 B.D.n b.c2] 26)) (.slice b'.a1 B'.n b'.c1) (.slice b'.a2 B'.D.n b'.c2) 26
  rw [World.size_alloc] at r1
  have HA2 : Hid (BX ((w.alloc (.cells #[.slice b.a1 B.n b.c1, .slice b.a2 B.D.n b.c2] 26)).alloc (.cells #[.slice b'.a1 B'.n b'.c1, .slice b'.a2 B'.D.n b'.c2] 26)) (w.heap.size + 1) b' B') := ⟨(h2.blw hb0).mono (fun x hx => Nat.lt_of_lt_of_le hx hb0.size), r1⟩
  have HB : Hid (Blw w ((w.alloc (.cells #[.slice b.a1 B.n b.c1, .slice b.a2 B.D.n b.c2] 26)).alloc (.cells #[.slice b'.a1 B'.n b'.c1, .slice b'.a2 B'.D.n b'.c2] 26))) := hb0
  have HL : Hid (Like B B' nt) := hL
  clear h1 h2 r1 hb0 hL
  go_enter Try.func21, Try.ntmps21
  go_wp2_with fail
  generalize ((w.alloc (.cells #[.slice b.a1 B.n b.c1, .slice b.a2 B.D.n b.c2] 26)).alloc (.cells #[.slice b'.a1 B'.n b'.c1, .slice b'.a2 B'.D.n b'.c2] 26)) = w0 at *
  go_loopw [7] (fun i wr => ∃ k : Nat, k ≤ 16 ∧ i = .int .i64 k ∧ Blw w0 wr) (fun i _ => 16 - (intOf i).toNat)
  case atStart => exact ⟨0, by omega, rfl, Blw.refl _⟩
  case round =>
    obtain ⟨k, hk, rfl, hb⟩ := hrel
    have HBW : Hid (Blw w0 wr) := hb
    clear hb
    by_cases hlt : k < 16
    · have hlt' : (k : Int) < 16 := by omega
      obtain ⟨p0, p1⟩ := get2 (HA.out.blw HBW.out).box
      go_wp2_with fail
      clear p0 p1
      refine (implWalk_any b B (k : Int) 1 _ _ (HA.out.blw HBW.out).at_ (fun x hx => hx)).mono ?_
      rintro e w2 ⟨x, y, r, rfl, ho, hb2⟩
      have HO : Hid (wtOut B (k : Int) 1 x y r) := ho
      replace HBW : Hid (Blw w0 w2) := HBW.out.trans hb2
      clear ho hb2
      obtain ⟨p0, p1⟩ := get2 (HA2.out.blw HBW.out).box
      go_wp2_with fail
      clear p0 p1
      refine (implWalk_any b' B' (k : Int) 1 _ _ (HA2.out.blw HBW.out).at_ (fun x hx => hx)).mono ?_
      rintro e w3 ⟨x', y', r', rfl, ho, hb2⟩
      have HO2 : Hid (wtOut B' (k : Int) 1 x' y' r') := ho
      replace HBW : Hid (Blw w0 w3) := HBW.out.trans hb2
      clear ho hb2
      by_cases hn : (k : Int) = nt
      · have dn : ((k : Int) != nt) = false := by simp [hn]
        clear HO HO2 hn
        go_wp2
        go_roundw
        case rel => exact ⟨k + 1, by omega, by go_num, HBW.out⟩
        case measure => simp [intOf]; omega
      · have dn : ((k : Int) != nt) = true := by simp [hn]
        obtain ⟨e1, e2, e3⟩ := HL.out.walk hlt hn HO.out HO2.out
        subst e1 e2 e3
        have d1 : (r != r) = false := by simp
        have d2 : (x != x) = false := by simp
        have d3 : (y != y) = false := by simp
        clear HO HO2 hn
        go_wp2
        go_roundw
        case rel => exact ⟨k + 1, by omega, by go_num, HBW.out⟩
        case measure => simp [intOf]; omega
    · obtain rfl : k = 16 := by omega
      have FIN : Hid (Blw w wr) := HB.out.trans HBW.out
      clear HBW HA HA2 HB HL
      go_wp2
      go_ret
      exact ⟨rfl, FIN.out⟩
end Go.Proofs.Ytbnencabjechjaa
