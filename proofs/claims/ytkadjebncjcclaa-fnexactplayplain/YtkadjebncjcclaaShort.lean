/- The laws' functions on lists of Sh. -/
import Derived.Test.YtkadjebncjcclaaRec
namespace Go.Proofs.Ytkadjebncjcclaa
open Go.RowKit
set_option linter.unusedSimpArgs false
set_option linter.unusedVariables false
theorem infoSh : (Try.prog.info? 108).map (fun i => (i.zero, i.size, i.bytes)) = some (some (.agg #[.int .i64 0, .int .i64 0, .int .i64 0]), 3, 24) := by kernel_rfl
theorem mkSh (n : Nat) (hn : n ≤ 1048576) (w : World) : (Instr.makeSlice 30 (.int .i64 n) (.int .i64 n)).run Try.prog w = .ok (.slice (some ⟨w.heap.size, 0, none⟩) n n) (w.alloc (.cells (madeCells #[.int .i64 0, .int .i64 0, .int .i64 0] (n * 3)) 108)) := by
  obtain ⟨i0, hi, hz0, hz1, hz2⟩ := info_parts infoSh
  have h := run_make (P := Try.prog) w 30 108 i0 (.agg #[.int .i64 0, .int .i64 0, .int .i64 0]) Try.underlying30 hi hz0 .i64 .i64 (n : Int) (n : Int) (by omega) (Int.le_refl _) (by rw [hz2]; omega) (by omega)
  simpa [hz1, Value.cells] using h
set_option maxHeartbeats 400000 in
theorem szSh_any (ao : Option Addr) (c n : Nat) (left : Int) (w : World) (hn : n ≤ 9223372036854775807) (h0 : 0 ≤ left) (h1 : left ≤ 1048576) :
    Calls Try.prog 94 #[.slice ao n c, .int .i64 left] w fun e w' => ∃ r : Int, e = .returned (.int .i64 r) ∧ Left left n r ∧ Blw w w' := by
  by_cases h : left - n < 0
  · go_enter Try.func94, Try.ntmps94
    go_wp2
    go_ret
    exact ⟨_, rfl, Or.inl rfl, Blw.refl _⟩
  · go_enter Try.func94, Try.ntmps94
    go_wp2
    go_ret
    exact ⟨_, rfl, Or.inr ⟨by omega, by omega⟩, Blw.refl _⟩
set_option maxHeartbeats 800000 in
theorem toSh1_any (x0 x1 x2 : Int) (w : World) : Calls Try.prog 132 #[.agg #[.int .i64 x0, .int .i64 x1, .int .i64 x2]] w fun e w' => e = .returned (.agg #[.int .i64 x0, .int .i64 x1, .int .i64 x2]) ∧ Blw w w' := by
  go_enter Try.func132, Try.ntmps132
  go_wp2
  refine bodyPost_ret (v := (.agg #[.int .i64 x0, .int .i64 x1, .int .i64 x2])) (by simp [results, Try.results132, go_sem]) rfl ⟨rfl, ?_⟩
  exact (((Blw.refl _).alloc _).alloc _).alloc _
set_option maxHeartbeats 1600000 in
theorem toSh_any (ao : Option Addr) (c n : Nat) (F : Nat → Nat → Int) (Y : Nat → Prop) (w : World) (hn : n ≤ 1048576) (h : KAt 3 Y w ao n F) :
    Calls Try.prog 95 #[.slice ao n c] w fun e w' => e = .returned (.slice (some ⟨w.heap.size, 0, none⟩) n n) ∧ Row w' w.heap.size (n * 3) (kc 3 F) ∧ Blw w w' := by
  have H : Hid (KAt 3 Y w ao n F) := h
  clear h
  have hmk := mkSh n hn
  go_enter Try.func95, Try.ntmps95
  go_wp2
  clear hmk
  go_loopw [4] (fun i wr => ∃ j : Nat, j ≤ n ∧ i = .int .i64 j ∧ Row wr w.heap.size (n * 3) (kc 3 (upK F (fun _ _ => 0) j)) ∧ Blw w wr) (fun i _ => n - (intOf i).toNat)
  case atStart => exact ⟨0, Nat.zero_le _, rfl, (Row.madeK w #[.int .i64 0, .int .i64 0, .int .i64 0] (.int .i64 0) (fun i hi => by
    match i, hi with
    | 0, _ => rfl
    | 1, _ => rfl
    | 2, _ => rfl
    ) (by decide) (n * 3) 108).congr (fun i _ => by rw [upK_zero]; rfl), (Blw.refl _).alloc _⟩
  case round =>
    obtain ⟨j, hj, rfl, hr, hb⟩ := hrel
    have HR : Hid (Row wr w.heap.size (n * 3) (kc 3 (upK F (fun _ _ => 0) j))) := hr
    have HB : Hid (Blw w wr) := hb
    clear hr hb
    by_cases hlt : j < n
    · obtain ⟨b, o, rfl, -, g⟩ := (H.out.blw HB.out).2 j hlt
      have g0 := g 0 (by omega)
      have g1 := g 1 (by omega)
      have g2 := g 2 (by omega)
      have hlt' : (j : Int) < n := by omega
      clear g H
      rw [Nat.add_zero] at g0
      go_wp2_with fail
      refine (toSh1_any _ _ _ _).mono ?_
      rintro e w1 ⟨rfl, hb1⟩
      clear g0 g1 g2
      have HR1 : Hid (Row w1 w.heap.size (n * 3) (kc 3 (upK F (fun _ _ => 0) j))) := HR.out.blw hb1
      have HB1 : Hid (Blw w w1) := HB.out.trans hb1
      clear HR HB hb1
      have p0 := k_get HR1.out hlt (c := 0) (by omega)
      have f0 := HR1.out.frozen (j * 3)
      have p1 := k_get HR1.out hlt (c := 1) (by omega)
      have f1 := HR1.out.frozen (j * 3 + 1)
      have p2 := k_get HR1.out hlt (c := 2) (by omega)
      have f2 := HR1.out.frozen (j * 3 + 2)
      rw [Nat.add_zero] at p0
      have HS : Hid (Row (((w1.setCell ⟨w.heap.size, j * 3, none⟩ (.int .i64 (F j 0))).setCell ⟨w.heap.size, j * 3 + 1, none⟩ (.int .i64 (F j 1))).setCell ⟨w.heap.size, j * 3 + 2, none⟩ (.int .i64 (F j 2))) w.heap.size (n * 3) (kc 3 (upK F (fun _ _ => 0) (j + 1)))) := by
        have hq := (setK (setK (setK HR1.out j (c := 0) (by omega) (F j 0)) j (c := 1) (by omega) (F j 1)) j (c := 2) (by omega) (F j 2))
        rw [Nat.add_zero] at hq
        refine hq.congr (fun t ht => ?_)
        have ht2 : t % 3 < 3 := Nat.mod_lt _ (by omega)
        unfold kc updF upK
        by_cases e : t / 3 = j
        · simp only [e, true_and, Nat.lt_succ_self, if_true]
          rcases (show t % 3 = 0 ∨ t % 3 = 1 ∨ t % 3 = 2 by omega) with e2 | e2 | e2 <;> simp [e2]
        · have e3 : (t / 3 < j + 1) = (t / 3 < j) := by simp; omega
          simp [e, e3]
      have HBF : Hid (Blw w (((w1.setCell ⟨w.heap.size, j * 3, none⟩ (.int .i64 (F j 0))).setCell ⟨w.heap.size, j * 3 + 1, none⟩ (.int .i64 (F j 1))).setCell ⟨w.heap.size, j * 3 + 2, none⟩ (.int .i64 (F j 2)))) := (((HB1.out.setCell (Nat.le_refl _) _).setCell (Nat.le_refl _) _).setCell (Nat.le_refl _) _)
      clear HR1 HB1
      go_wp2
      go_roundw
      case rel => exact ⟨j + 1, by omega, by go_num, HS.out, HBF.out⟩
      case measure => simp [intOf]; omega
    · go_wp2
      go_ret
      obtain rfl : j = n := by omega
      refine ⟨rfl, HR.out.congr fun i hi => ?_, HB.out⟩
      have : i / 3 < j := Nat.div_lt_of_lt_mul (by rw [Nat.mul_comm]; exact hi)
      simp [kc, upK, this]
set_option maxHeartbeats 800000 in
theorem eqSh1_same (x0 x1 x2 : Int) (w : World) : Calls Try.prog 128 #[.agg #[.int .i64 x0, .int .i64 x1, .int .i64 x2], .agg #[.int .i64 x0, .int .i64 x1, .int .i64 x2]] w fun e w' => e = .returned (.bool true) ∧ Blw w w' := by
  have h0 : (x0 != x0) = false := by simp
  have h1 : (x1 != x1) = false := by simp
  have h2 : (x2 != x2) = false := by simp
  go_enter Try.func128, Try.ntmps128
  go_wp2
  go_ret
  exact ⟨rfl, ((Blw.refl _).alloc _).alloc _⟩
set_option maxHeartbeats 1600000 in
theorem eqSh_same (a1 a2 : Option Addr) (c1 c2 n : Nat) (F : Nat → Nat → Int) {X Y : Nat → Prop} (w : World) (h1 : KAt 3 X w a1 n F) (h2 : KAt 3 Y w a2 n F) :
    Calls Try.prog 88 #[.slice a1 n c1, .slice a2 n c2] w fun e w' => e = .returned (.bool true) ∧ Blw w w' := by
  have H1 : Hid (KAt 3 X w a1 n F) := h1
  have H2 : Hid (KAt 3 Y w a2 n F) := h2
  have hn := h1.1
  clear h1 h2
  have hne : ((n : Int) != (n : Int)) = false := by simp
  go_enter Try.func88, Try.ntmps88
  go_wp2_with fail
  go_loopw [5] (fun i wr => ∃ k : Nat, k ≤ n ∧ i = .int .i64 k ∧ Blw w wr) (fun i _ => n - (intOf i).toNat)
  case atStart => exact ⟨0, Nat.zero_le _, rfl, Blw.refl _⟩
  case round =>
    obtain ⟨k, hk, rfl, hb⟩ := hrel
    by_cases hlt : k < n
    · have hlt' : (k : Int) < n := by omega
      obtain ⟨b1, o1, rfl, -, g1⟩ := (H1.out.blw hb).2 k hlt
      obtain ⟨b2, o2, rfl, -, g2⟩ := (H2.out.blw hb).2 k hlt
      generalize hFk : F k = Fk at *
      have P0 : ∀ w', Blw wr w' → w'.cell? ⟨b1, o1 + k * 3, none⟩ = some (.int .i64 (Fk 0)) := fun w' hh => hh.cell (g1 0 (by omega))
      have Q0 : ∀ w', Blw wr w' → w'.cell? ⟨b2, o2 + k * 3, none⟩ = some (.int .i64 (Fk 0)) := fun w' hh => hh.cell (g2 0 (by omega))
      have P1 : ∀ w', Blw wr w' → w'.cell? ⟨b1, o1 + k * 3 + 1, none⟩ = some (.int .i64 (Fk 1)) := fun w' hh => hh.cell (g1 1 (by omega))
      have Q1 : ∀ w', Blw wr w' → w'.cell? ⟨b2, o2 + k * 3 + 1, none⟩ = some (.int .i64 (Fk 1)) := fun w' hh => hh.cell (g2 1 (by omega))
      have P2 : ∀ w', Blw wr w' → w'.cell? ⟨b1, o1 + k * 3 + 2, none⟩ = some (.int .i64 (Fk 2)) := fun w' hh => hh.cell (g1 2 (by omega))
      have Q2 : ∀ w', Blw wr w' → w'.cell? ⟨b2, o2 + k * 3 + 2, none⟩ = some (.int .i64 (Fk 2)) := fun w' hh => hh.cell (g2 2 (by omega))
      have HB : Hid (Blw w wr) := hb
      clear g1 g2 H1 H2 hb hFk
      go_wp2_with fail
      go_region_held3 (fun w' => Blw wr w') ((first | exact (Blw.refl _).drew | assumption | exact Blw.trans (by assumption) (by assumption))) (first
        | (go_at_call 128; refine (eqSh1_same (Fk 0) (Fk 1) (Fk 2) _).mono ?_; rintro e w7 ⟨rfl, hb7⟩))
      all_goals go_wp2
      all_goals go_roundw
      all_goals first | exact ⟨k + 1, by omega, by go_num, HB.out.trans (by assumption)⟩ | (simp [intOf]; omega)
    · obtain rfl : k = n := by omega
      go_wp2
      go_ret
      exact ⟨rfl, hb⟩
set_option maxHeartbeats 3200000 in
theorem markSh_any (ao : Option Addr) (c n : Nat) (F : Nat → Nat → Int) (X : Nat → Prop) (k : Int) (w : World) (h1 : 0 ≤ k) (h2 : k + 3 * n ≤ 9223372036854775807) (h : KOwn 3 X w ao n F) :
    Calls Try.prog 91 #[.slice ao n c, .int .i64 k] w fun e w' => e = .returned (.int .i64 (k + 3 * n)) ∧ KOwn 3 X w' ao n (mkK 3 k) ∧ Mod X w w' := by
  have H : Hid (KOwn 3 X w ao n F) := h
  have hn := h.1
  clear h
  go_enter Try.func91, Try.ntmps91
  go_wp2_with fail
  go_loopw [1, 5] (fun kv iv wr => ∃ i : Nat, i ≤ n ∧ iv = .int .i64 i ∧ kv = .int .i64 (k + 3 * i) ∧ KOwn 3 X wr ao n (upK (mkK 3 k) F i) ∧ Mod X w wr) (fun _ i _ => n - (intOf i).toNat)
  case atStart => exact ⟨0, Nat.zero_le _, rfl, by simp, by rw [upK_zero]; exact H.out, Mod.refl _ _⟩
  case round =>
    obtain ⟨i, hi, rfl, rfl, S, hm⟩ := hrel
    clear H
    by_cases hlt : i < n
    · have hlt' : (i : Int) < n := by omega
      obtain ⟨b, hx, rfl, r⟩ := S.2 (by omega)
      have p0 := k_get r hlt (c := 0) (by omega)
      have f0 := r.frozen (i * 3)
      have p1 := k_get r hlt (c := 1) (by omega)
      have f1 := r.frozen (i * 3 + 1)
      have p2 := k_get r hlt (c := 2) (by omega)
      have f2 := r.frozen (i * 3 + 2)
      rw [Nat.add_zero] at p0
      have HR : Hid (Row (((wr.setCell ⟨b, i * 3, none⟩ (.int .i64 (k + 3 * i))).setCell ⟨b, i * 3 + 1, none⟩ (.int .i64 (k + 3 * i + 1))).setCell ⟨b, i * 3 + 2, none⟩ (.int .i64 (k + 3 * i + 1 + 1))) b (n * 3) (kc 3 (upK (mkK 3 k) F (i + 1)))) := by
        have hq := (setK (setK (setK r i (c := 0) (by omega) (k + 3 * i)) i (c := 1) (by omega) (k + 3 * i + 1)) i (c := 2) (by omega) (k + 3 * i + 1 + 1))
        rw [Nat.add_zero] at hq
        refine hq.congr (fun t ht => ?_)
        have ht2 : t % 3 < 3 := Nat.mod_lt _ (by omega)
        unfold kc updF upK mkK
        by_cases e : t / 3 = i
        · simp only [e, true_and, Nat.lt_succ_self, if_true]
          rcases (show t % 3 = 0 ∨ t % 3 = 1 ∨ t % 3 = 2 by omega) with e2 | e2 | e2 <;> simp [e2] <;> omega
        · have e3 : (t / 3 < i + 1) = (t / 3 < i) := by simp; omega
          simp [e, e3]
      have HM : Hid (Mod X w (((wr.setCell ⟨b, i * 3, none⟩ (.int .i64 (k + 3 * i))).setCell ⟨b, i * 3 + 1, none⟩ (.int .i64 (k + 3 * i + 1))).setCell ⟨b, i * 3 + 2, none⟩ (.int .i64 (k + 3 * i + 1 + 1)))) := (((hm.trans (Mod.setCell _ (p := ⟨b, i * 3, none⟩) hx _)).trans (Mod.setCell _ (p := ⟨b, i * 3 + 1, none⟩) hx _)).trans (Mod.setCell _ (p := ⟨b, i * 3 + 2, none⟩) hx _))
      clear S hm r
      have ee : k + 3 * (i : Int) + 1 + 1 + 1 = k + 3 * ((i + 1 : Nat) : Int) := by omega
      go_wp2
      go_roundw
      case rel => exact ⟨i + 1, by omega, by go_num, by congr 1 <;> omega, ⟨hn, fun _ => ⟨b, hx, rfl, HR.out⟩⟩, HM.out⟩
      case measure => simp [intOf]; omega
    · obtain rfl : i = n := by omega
      go_wp2
      go_ret
      exact ⟨rfl, upK_all (by omega) S, hm⟩
set_option maxHeartbeats 3200000 in
theorem heldSh_any (ao : Option Addr) (c n : Nat) (X : Nat → Prop) (k : Int) (w : World) (h1 : 0 ≤ k) (h2 : k + 3 * n ≤ 9223372036854775807) (h : KOwn 3 X w ao n (mkK 3 k)) :
    Calls Try.prog 93 #[.slice ao n c, .int .i64 k] w fun e w' => e = .returned (.int .i64 (k + 3 * n)) ∧ Blw w w' := by
  have H : Hid (KOwn 3 X w ao n (mkK 3 k)) := h
  have hn := h.1
  clear h
  go_enter Try.func93, Try.ntmps93
  go_wp2_with fail
  go_loopw [1, 5] (fun kv iv wr => ∃ i : Nat, i ≤ n ∧ iv = .int .i64 i ∧ kv = .int .i64 (k + 3 * i) ∧ wr = w) (fun _ i _ => n - (intOf i).toNat)
  case atStart => exact ⟨0, Nat.zero_le _, rfl, by simp, rfl⟩
  case round =>
    obtain ⟨i, hi, rfl, rfl, rfl⟩ := hrel
    by_cases hlt : i < n
    · have hlt' : (i : Int) < n := by omega
      obtain ⟨b, hx, rfl, r⟩ := H.out.2 (by omega)
      have p0 : _ = some (Value.int .i64 (k + 3 * (i : Int))) := (k_get r hlt (c := 0) (by omega)).trans (by unfold mkK; congr 2 <;> omega)
      have n0 : ((k + 3 * (i : Int)) != (k + 3 * (i : Int))) = false := by simp
      have p1 : _ = some (Value.int .i64 (k + 3 * (i : Int) + 1)) := (k_get r hlt (c := 1) (by omega)).trans (by unfold mkK; congr 2 <;> omega)
      have n1 : ((k + 3 * (i : Int) + 1) != (k + 3 * (i : Int) + 1)) = false := by simp
      have p2 : _ = some (Value.int .i64 (k + 3 * (i : Int) + 1 + 1)) := (k_get r hlt (c := 2) (by omega)).trans (by unfold mkK; congr 2 <;> omega)
      have n2 : ((k + 3 * (i : Int) + 1 + 1) != (k + 3 * (i : Int) + 1 + 1)) = false := by simp
      rw [Nat.add_zero] at p0
      clear r
      go_wp2
      go_roundw
      case rel => exact ⟨i + 1, by omega, by go_num, by congr 1 <;> omega, by first | rfl | trivial⟩
      case measure => simp [intOf]; omega
    · obtain rfl : i = n := by omega
      go_wp2
      go_ret
      exact ⟨rfl, Blw.refl _⟩
end Go.Proofs.Ytkadjebncjcclaa
