/- The laws' functions on lists of memories: compared, marked, held. -/
import Derived.Test.YtglllnklcnlcjaaLawT
import Derived.Test.YtglllnklcnlcjaaMark
import Derived.Test.YtglllnklcnlcjaaEq4
namespace Go.Proofs.Ytglllnklcnlcjaa
open Go.RowKit
set_option linter.unusedSimpArgs false
set_option linter.unusedVariables false
/-- How many marks the first memories bear. -/
def totals (R : Nat → MD) : Nat → Nat
  | 0 => 0
  | k + 1 => totals R k + (R k).total
def markedS (R : Nat → MD) (k : Int) : Nat → MD := fun i => (R i).marked (k + totals R i)
def SmallS (R : Nat → MD) (n : Nat) : Prop := n ≤ 100 ∧ ∀ i, i < n → (R i).total ≤ 108
theorem totals_le' {R : Nat → MD} {n : Nat} (h : SmallS R n) : ∀ k, k ≤ n → totals R k ≤ 108 * k
  | 0, _ => Nat.le_refl _
  | k + 1, hk => by
    have h1 := totals_le' h k (by omega)
    have h2 := h.2 k (by omega)
    show totals R k + (R k).total ≤ _
    omega
theorem totals_le {R : Nat → MD} {n : Nat} (h : SmallS R n) : totals R n ≤ 1048576 := by
  have h1 := totals_le' h n (Nat.le_refl _)
  have h2 := h.1
  omega
theorem dsOut_n {M : MD} {n : Nat} {f g : Nat → Int} {N : Nat} {R : Nat → MD} {b : Bool} (h : dsOut M n f g N R b) : SmallS R N := by
  rcases h with ⟨hr, rfl, hR, _⟩ | ⟨_, rfl, _⟩
  · have := hr.2.2.1.2
    exact ⟨by omega, fun i hi => by rw [hR i hi]; exact Nat.le_of_eq (total_full _ _ _)⟩
  · exact ⟨by omega, fun i hi => by omega⟩
set_option maxHeartbeats 3200000 in
theorem eqMemoryS_same (a1 a2 : Option Addr) (c1 c2 : Nat) (n : Nat) (R : Nat → MD) {X Y : Nat → Prop} (w : World) (h1 : MemsOwn X w a1 n R) (h2 : MemsOwn Y w a2 n R) :
    Calls Try.prog 40 #[.slice a1 n c1, .slice a2 n c2] w fun e w' => e = .returned (.bool true) ∧ Blw w w' := by
  obtain ⟨mv1, h1'⟩ := h1.at
  obtain ⟨mv2, h2'⟩ := h2.at
  have H1 : Hid (MemsAt X w a1 n mv1 R) := h1'
  have H2 : Hid (MemsAt Y w a2 n mv2 R) := h2'
  have hn := h1.1
  clear h1 h2 h1' h2'
  have hne : ((n : Int) != (n : Int)) = false := by simp
  go_enter Try.func40, Try.ntmps40
  go_wp2_with fail
  go_loopw [5] (fun i wr => ∃ k : Nat, k ≤ n ∧ i = .int .i64 k ∧ Blw w wr) (fun i _ => n - (intOf i).toNat)
  case atStart => exact ⟨0, Nat.zero_le _, rfl, Blw.refl _⟩
  case round =>
    obtain ⟨k, hk, rfl, hb⟩ := hrel
    by_cases hlt : k < n
    · have hlt' : (k : Int) < n := by omega
      obtain ⟨⟨b1, o1, rfl, -, r10, r11, r12⟩, m1⟩ := (H1.out.blw hb).2 k hlt
      obtain ⟨⟨b2, o2, rfl, -, r20, r21, r22⟩, m2⟩ := (H2.out.blw hb).2 k hlt
      have P0 : ∀ w', Blw wr w' → w'.cell? ⟨b1, o1 + k * 3, none⟩ = some (.slice (mv1 k).a1 (R k).n1 (mv1 k).c1) := fun w' hh => hh.cell r10
      have P1 : ∀ w', Blw wr w' → w'.cell? ⟨b1, o1 + k * 3 + 1, none⟩ = some (.slice (mv1 k).a2 (R k).n2 (mv1 k).c2) := fun w' hh => hh.cell r11
      have P2 : ∀ w', Blw wr w' → w'.cell? ⟨b1, o1 + k * 3 + 2, none⟩ = some (.slice (mv1 k).a3 (R k).n3 (mv1 k).c3) := fun w' hh => hh.cell r12
      have Q0 : ∀ w', Blw wr w' → w'.cell? ⟨b2, o2 + k * 3, none⟩ = some (.slice (mv2 k).a1 (R k).n1 (mv2 k).c1) := fun w' hh => hh.cell r20
      have Q1 : ∀ w', Blw wr w' → w'.cell? ⟨b2, o2 + k * 3 + 1, none⟩ = some (.slice (mv2 k).a2 (R k).n2 (mv2 k).c2) := fun w' hh => hh.cell r21
      have Q2 : ∀ w', Blw wr w' → w'.cell? ⟨b2, o2 + k * 3 + 2, none⟩ = some (.slice (mv2 k).a3 (R k).n3 (mv2 k).c3) := fun w' hh => hh.cell r22
      have HB : Hid (Blw w wr) := hb
      have M1 : Hid (MemAt X wr (mv1 k) (R k)) := m1
      have M2 : Hid (MemAt Y wr (mv2 k) (R k)) := m2
      clear r10 r11 r12 r20 r21 r22 hb m1 m2
      go_wp2_with fail
      go_region_held3 (fun w' => Blw wr w') ((first | exact (Blw.refl _).drew | assumption | exact Blw.trans (by assumption) (by assumption))) (first
        | (go_at_call 41; refine (eqMemory_same (mv1 k) (mv2 k) (R k) _ (M1.out.blw (Blw.refl _).drew) (M2.out.blw (Blw.refl _).drew)).mono ?_; rintro e w7 ⟨rfl, hb7⟩))
      all_goals clear P0 P1 P2 Q0 Q1 Q2
      all_goals go_wp2
      all_goals go_roundw
      all_goals first | exact ⟨k + 1, by omega, by go_num, HB.out.trans (by assumption)⟩ | (simp [intOf]; omega)
    · obtain rfl : k = n := by omega
      have hlt' : ¬ (k : Int) < k := by omega
      go_wp2
      go_ret
      exact ⟨rfl, hb⟩
theorem markedS_n (R : Nat → MD) (k : Int) (i : Nat) : (markedS R k i).n1 = (R i).n1 ∧ (markedS R k i).n2 = (R i).n2 ∧ (markedS R k i).n3 = (R i).n3 := ⟨rfl, rfl, rfl⟩
theorem mcell_marked (mv : Nat → MV) (R : Nat → MD) (k : Int) : mcell mv (markedS R k) = mcell mv R := by
  funext j
  simp only [mcell, markedS, MD.marked]
/-- The first j memories are marked. -/
structure MarkJ (X : Nat → Prop) (w wr : World) (b n : Nat) (mv : Nat → MV) (R : Nat → MD) (Z : Nat → Nat → Prop) (k : Int) (j : Nat) : Prop where
  row : Row wr b (n * 3) (mcell mv R)
  own : ∀ i, i < n → MemOwn (Z i) wr (mv i) (if i < j then markedS R k i else R i)
  mod : Mod X w wr
set_option maxRecDepth 10000 in
set_option maxHeartbeats 3200000 in
theorem markMemoryS_any (ao : Option Addr) (c n : Nat) (R : Nat → MD) (X : Nat → Prop) (k : Int) (w : World) (hk0 : 0 ≤ k ∧ k ≤ 1000) (hS : SmallS R n) (hX : ∀ b, X b → b < w.heap.size) (h : MemsOwn X w ao n R) :
    Calls Try.prog 44 #[.slice ao n c, .int .i64 k] w fun e w' => e = .returned (.int .i64 (k + totals R n)) ∧ MemsOwn X w' ao n (markedS R k) ∧ Mod X w w' := by
  have hn := h.1
  have hn100 := hS.1
  have HS : Hid (SmallS R n) := hS
  clear hS
  rcases Nat.eq_zero_or_pos n with hn0 | hn0
  · subst hn0
    go_enter Try.func44, Try.ntmps44
    go_wp2_with fail
    go_loopw [1, 5] (fun kv i wr => i = .int .i64 0 ∧ kv = .int .i64 k ∧ wr = w) (fun _ _ _ => 0)
    case atStart => exact ⟨rfl, rfl, rfl⟩
    case round =>
      obtain ⟨rfl, rfl, rfl⟩ := hrel
      go_wp2
      go_ret
      exact ⟨ret_int (by simp [totals]), MemsOwn.nil _ _ _ _, Mod.refl _ _⟩
  · obtain ⟨b, mv, Z, xb, rfl, r, hI⟩ := h.2 hn0
    have J0 : Hid (MarkJ X w w b n mv R Z k 0) := ⟨r, fun i hi => by rw [if_neg (Nat.not_lt_zero _)]; exact hI.own i hi, Mod.refl _ _⟩
    have HI : Hid (MemsIn (fun x => X x ∧ x ≠ b) w n mv R Z) := hI
    have HXb : Hid (X b) := xb
    clear h r hI xb
    go_enter Try.func44, Try.ntmps44
    go_wp2_with fail
    go_loopw [1, 5] (fun kv i wr => ∃ j : Nat, j ≤ n ∧ i = .int .i64 j ∧ kv = .int .i64 (k + totals R j) ∧ MarkJ X w wr b n mv R Z k j) (fun _ i _ => n - (intOf i).toNat)
    case atStart => exact ⟨0, by omega, rfl, by simp [totals], J0.out⟩
    case round =>
      obtain ⟨j, hj, rfl, rfl, J⟩ := hrel
      clear J0
      by_cases hlt : j < n
      · have hlt' : (j : Int) < n := by omega
        obtain ⟨p0, p1, p2⟩ := mems_get J.row hlt
        have ho := J.own j hlt
        rw [if_neg (Nat.lt_irrefl j)] at ho
        have HJ : Hid _ := J
        obtain ⟨X1, X2, X3, h1, h2, h3, s, cc, d⟩ := ho.ex
        have htj := totals_le' HS.out j (by omega)
        have htt := HS.out.2 j hlt
        have hZb : ∀ x, Z j x → X x ∧ x ≠ b := HI.out.sub j hlt
        have HZb : Hid (∀ x, Z j x → X x ∧ x ≠ b) := hZb
        have x1 : ¬ X1 b := fun hh => (hZb _ (h1 _ hh).1).2 rfl
        have x2 : ¬ X2 b := fun hh => (hZb _ (h2 _ hh).1).2 rfl
        obtain ⟨mj, hmj⟩ : ∃ mj, mj = mv j := ⟨_, rfl⟩
        rw [← hmj] at p0 p1 p2 s cc d
        have hRj : ∃ Rj, Rj = R j := ⟨_, rfl⟩
        obtain ⟨Rj, hRj⟩ := hRj
        rw [← hRj] at p0 p1 p2 s cc d htt
        have HMJ : Hid (mj = mv j) := hmj
        have HRJ : Hid (Rj = R j) := hRj
        obtain ⟨n1, n2, n3, l1, l2, v1, v2, dd⟩ := Rj
        obtain ⟨a1, a2, a3, d1, d2, d3⟩ := mj
        simp only [MD.total] at htt
        have HTT : Hid (totals R (j + 1) = totals R j + (pre l1 n1 + pre l2 n2 + n3)) := by show totals R j + (R j).total = _; rw [← HRJ.out]; rfl
        dsimp only at p0 p1 p2 s cc d
        clear J ho hmj hRj hZb
        generalize hT : totals R j = T at *
        go_wp2_with fail
        clear p0
        refine (markLineS_any _ _ n1 l1 v1 X1 _ _ (by omega) (by omega) s).mono ?_
        rintro e w1 ⟨rfl, o1, m1⟩
        replace p1 := m1.cell p1 x1
        replace p2 := m1.cell p2 x1
        replace cc := cc.mod m1 (fun b hb hh => (h1 b hh).2.1 hb)
        replace d := d.mod m1 (fun b hb hh => (h1 b hh).2.2 hb)
        have M1 : Hid (Mod (Z j) wr w1) := m1.mono (fun b hb => (h1 b hb).1)
        clear s m1
        go_wp2_with fail
        clear p1
        refine (markLineS_any _ _ n2 l2 v2 X2 _ _ (by omega) (by omega) cc).mono ?_
        rintro e w2 ⟨rfl, o2, m2⟩
        replace p2 := m2.cell p2 x2
        replace o1 := o1.mod m2 (fun b hb hh => (h1 b hb).2.1 hh)
        replace d := d.mod m2 (fun b hb hh => (h2 b hh).2 hb)
        have M2 : Hid (Mod (Z j) wr w2) := M1.out.trans (m2.mono (fun b hb => (h2 b hb).1))
        clear cc m2 M1
        go_wp2_with fail
        clear p2
        refine (markBoolS_any _ _ n3 dd X3 _ _ (by omega) (by omega) d).mono ?_
        rintro e w3 ⟨rfl, o3, m3⟩
        replace o1 := o1.mod m3 (fun b hb hh => (h1 b hb).2.2 hh.1)
        replace o2 := o2.mod m3 (fun b hb hh => (h2 b hb).2 hh.1)
        have M3 : Mod (Z j) wr w3 := M2.out.trans (m3.mono (fun b hb => h3 b hb.1))
        have OJ : MemOwn (Z j) w3 (mv j) (markedS R k j) := by
          have h9 : MemOwn (Z j) w3 ⟨a1, a2, a3, d1, d2, d3⟩ (MD.marked ⟨n1, n2, n3, l1, l2, v1, v2, dd⟩ (k + T)) := ⟨X1, X2, X3, h1, h2, h3, o1, o2, o3⟩
          rw [HMJ.out, HRJ.out, ← hT] at h9
          exact h9
        have HN : Hid (MarkJ X w w3 b n mv R Z k (j + 1)) := by
          refine ⟨HJ.out.row.mod M3 (fun hh => (HZb.out _ hh).2 rfl), fun i hi => ?_, HJ.out.mod.trans (M3.mono (fun x hx => (HZb.out x hx).1))⟩
          by_cases e : i = j
          · subst e
            rw [if_pos (by omega)]
            exact OJ
          · have h9 := (HJ.out.own i hi).mod M3 (fun x hx hh => HI.out.dis i j hi hlt e x hx hh)
            by_cases e2 : i < j
            · rw [if_pos e2] at h9
              rw [if_pos (by omega)]; exact h9
            · rw [if_neg e2] at h9
              rw [if_neg (by omega)]; exact h9
        have e1 : k + (T : Int) + (pre l1 n1 : Int) + (pre l2 n2 : Int) + (n3 : Int) = k + (totals R (j + 1) : Nat) := by have := HTT.out; omega
        clear M3 OJ o1 o2 o3 m3 d M2 x1 x2 h1 h2 h3 HJ
        rw [e1]
        clear e1
        go_wp2
        go_roundw
        case rel => exact ⟨j + 1, by omega, by go_num, rfl, HN.out⟩
        case measure => simp [intOf]; omega
      · obtain rfl : j = n := by omega
        have hlt' : ¬ (j : Int) < j := by omega
        have HN : Hid (MemsOwn X wr (some ⟨b, 0, none⟩) j (markedS R k) ∧ Mod X w wr) := by
          refine ⟨⟨hn, fun _ => ⟨b, mv, Z, HXb.out, rfl, by rw [mcell_marked]; exact J.row, ⟨fun i hi => ?_, HI.out.sub, HI.out.dis⟩⟩⟩, J.mod⟩
          have h9 := J.own i hi
          rw [if_pos hi] at h9
          exact h9
        clear J
        go_wp2
        go_ret
        exact ⟨rfl, HN.out.1, HN.out.2⟩
set_option maxRecDepth 10000 in
set_option maxHeartbeats 3200000 in
theorem heldMemoryS_any (ao : Option Addr) (c n : Nat) (R : Nat → MD) (X : Nat → Prop) (k : Int) (w : World) (hk0 : 0 ≤ k ∧ k ≤ 1000) (hS : SmallS R n) (h : MemsOwn X w ao n (markedS R k)) :
    Calls Try.prog 45 #[.slice ao n c, .int .i64 k] w fun e w' => e = .returned (.int .i64 (k + totals R n)) ∧ Blw w w' := by
  have hn := h.1
  have hn100 := hS.1
  have HS : Hid (SmallS R n) := hS
  obtain ⟨mv, hA⟩ := h.at
  have HA : Hid (MemsAt X w ao n mv (markedS R k)) := hA
  clear h hA hS
  go_enter Try.func45, Try.ntmps45
  go_wp2_with fail
  go_loopw [1, 5] (fun kv i wr => ∃ j : Nat, j ≤ n ∧ i = .int .i64 j ∧ kv = .int .i64 (k + totals R j) ∧ Blw w wr) (fun _ i _ => n - (intOf i).toNat)
  case atStart => exact ⟨0, by omega, rfl, by simp [totals], Blw.refl _⟩
  case round =>
    obtain ⟨j, hj, rfl, rfl, hb⟩ := hrel
    by_cases hlt : j < n
    · have hlt' : (j : Int) < n := by omega
      obtain ⟨⟨b, o, rfl, -, p0, p1, p2⟩, mm⟩ := (HA.out.blw hb).2 j hlt
      have htj := totals_le' HS.out j (by omega)
      have htt := HS.out.2 j hlt
      have hRj : ∃ Rj, Rj = R j := ⟨_, rfl⟩
      obtain ⟨Rj, hRj⟩ := hRj
      have mm' : MemAt X wr (mv j) (MD.marked Rj (k + totals R j)) := by rw [hRj]; exact mm
      have q0 : wr.cell? ⟨b, o + j * 3, none⟩ = some (.slice (mv j).a1 Rj.n1 (mv j).c1) := by rw [hRj]; exact p0
      have q1 : wr.cell? ⟨b, o + j * 3 + 1, none⟩ = some (.slice (mv j).a2 Rj.n2 (mv j).c2) := by rw [hRj]; exact p1
      have q2 : wr.cell? ⟨b, o + j * 3 + 2, none⟩ = some (.slice (mv j).a3 Rj.n3 (mv j).c3) := by rw [hRj]; exact p2
      have HTT : Hid (totals R (j + 1) = totals R j + Rj.total) := by rw [hRj]; rfl
      rw [← hRj] at htt
      have HB : Hid (Blw w wr) := hb
      obtain ⟨n1, n2, n3, l1, l2, v1, v2, dd⟩ := Rj
      obtain ⟨s, cc, d⟩ := mm'
      simp only [MD.total, MD.marked] at htt HTT s cc d q0 q1 q2
      clear p0 p1 p2 mm hRj hb
      generalize hT : totals R j = T at *
      go_wp2_with fail
      clear q0
      refine (heldLineS_any _ _ n1 l1 X _ _ (by omega) (by omega) s).mono ?_
      rintro e w1 ⟨rfl, hb1⟩
      replace q1 := hb1.cell q1
      replace q2 := hb1.cell q2
      have k1 : ¬ (k + (T : Int) + (pre l1 n1 : Int) < 0) := by omega
      go_wp2_with fail
      clear q1 k1
      refine (heldLineS_any _ _ n2 l2 X _ _ (by omega) (by omega) (cc.blw hb1)).mono ?_
      rintro e w2 ⟨rfl, hb2⟩
      replace q2 := hb2.cell q2
      replace hb2 := hb1.trans hb2
      have k1 : ¬ (k + (T : Int) + (pre l1 n1 : Int) + (pre l2 n2 : Int) < 0) := by omega
      clear hb1
      go_wp2_with fail
      clear q2 k1
      refine (heldBoolS_any _ _ n3 X _ _ (by omega) (by omega) (d.blw hb2)).mono ?_
      rintro e w3 ⟨rfl, hb3⟩
      replace hb3 := HB.out.trans (hb2.trans hb3)
      have e1 : k + (T : Int) + (pre l1 n1 : Int) + (pre l2 n2 : Int) + (n3 : Int) = k + (totals R (j + 1) : Nat) := by have h9 : totals R (j + 1) = T + (pre l1 n1 + pre l2 n2 + n3) := HTT.out; omega
      have k1 : ¬ (k + (totals R (j + 1) : Nat) < 0) := by omega
      clear s cc d hb2
      rw [e1]
      clear e1
      go_wp2
      go_roundw
      case rel => exact ⟨j + 1, by omega, by go_num, rfl, hb3⟩
      case measure => simp [intOf]; omega
    · obtain rfl : j = n := by omega
      have hlt' : ¬ (j : Int) < j := by omega
      go_wp2
      go_ret
      exact ⟨rfl, hb⟩
end Go.Proofs.Ytglllnklcnlcjaa
