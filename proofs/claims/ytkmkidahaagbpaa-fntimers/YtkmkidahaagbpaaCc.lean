/- slices.Concat of two lists of rows. -/
import Derived.Test.YtkmkidahaagbpaaTmi
import Derived.Test.YtkmkidahaagbpaaInsT
namespace Go.Proofs.Ytkmkidahaagbpaa
open Go.RowKit
set_option linter.unusedSimpArgs false
set_option linter.unusedVariables false
theorem PSAt.fn {Y : Nat → Prop} {w : World} {ao : Option Addr} {n : Nat} {R : Rws} (h : PSAt Y w ao (pdn n R)) (hn : 0 < n) : ∃ b o, ∃ A : Nat → Option Addr, ∃ c : Nat → Nat, ao = some ⟨b, o, none⟩ ∧ Y b ∧ ∀ i, i < n → w.cell? ⟨b, o + i, none⟩ = some (.slice (A i) (R i).length (c i)) ∧ UndosAt Y w (A i) (R i).length (lf (R i)) (la (R i)) := by
  obtain ⟨b, o, a, c, e, hY, h1, h2⟩ := h.2 0 hn
  subst e
  have hx : ∀ i, i < n → ∃ q : Option Addr × Nat, w.cell? ⟨b, o + i, none⟩ = some (.slice q.1 (R i).length q.2) ∧ UndosAt Y w q.1 (R i).length (lf (R i)) (la (R i)) := fun i hi => by
    obtain ⟨b', o', a', c', e', _, h3, h4⟩ := h.2 i hi
    cases e'
    exact ⟨(a', c'), h3, h4⟩
  refine ⟨b, o, fun i => if hi : i < n then (Classical.choose (hx i hi)).1 else none, fun i => if hi : i < n then (Classical.choose (hx i hi)).2 else 0, rfl, hY, fun i hi => ?_⟩
  simp only [dif_pos hi]
  exact Classical.choose_spec (hx i hi)
theorem RowE.ex {w : World} {g N : Nat} {t : TypeId} {c : Array Value} (h : w.heap[g]? = some (.cells c t (0, 0))) (hN : c.size = N) : ∃ f, RowE w g t N f :=
  ⟨fun i => c.getD i undef, c, h, hN, fun i hi => by
    have hl : i < c.size := by omega
    rw [Array.getElem?_eq_getElem hl]; simp [Array.getD, hl]⟩
theorem sInfo : (Try.prog.info? 31).map (fun i => (i.zero, i.size, i.bytes)) = some (some (.slice none 0 0), 1, 24) := by kernel_rfl
set_option maxHeartbeats 1600000 in
theorem grow_any (w : World) : Calls Try.prog 95 #[.slice none 0 0, .int .i64 16] w fun e w' => ∃ G, e = .returned (.slice (some ⟨w.heap.size, 0, none⟩) 0 G) ∧ Buf 31 1 (fun b => b = w.heap.size) w' (.slice (some ⟨w.heap.size, 0, none⟩) 0 G) 0 (fun _ => .slice none 0 0) ∧ Blw w w' := by
  obtain ⟨i0, hi0, hz0, hzs, hzb⟩ := info_parts sInfo
  have hold : (Builtin.firstCells i0.size 0 (.slice none 0 0)).run Try.prog w.drew = .ok ([] : List Value).toArray w.drew := by simp [Builtin.firstCells]
  have hrz := Lib.run_append_grow_zeros w 23 3 23 31 i0 _ .i64 .i64 Try.underlying23 Try.underlying3 hi0 hz0 none 0 0 [] hold 16 (by omega) (by omega) (by omega) (by omega) (by rw [hzb]; omega) (by rw [hzb]; decide)
  obtain ⟨G, hG⟩ : ∃ G, grownCap w (0 + 16) 0 31 = G := ⟨_, rfl⟩
  have hGn : 0 + 16 ≤ G := by rw [← hG]; exact grownCap_ge w _ _ _
  have hGm : G ≤ maxLen := by rw [← hG]; exact grownCap_le_maxLen w (0 + 16) 0 31 (by unfold maxLen; omega)
  rw [hG] at hrz
  obtain ⟨W1, hW1⟩ : ∃ W1, (w.drew.alloc (.cells (([] : List Value).toArray ++ Builtin.zeroCells (Value.slice none 0 0).cells 16 ++ Builtin.zeroCells (Value.slice none 0 0).cells (G - (0 + 16))) 31)) = W1 := ⟨_, rfl⟩
  rw [hW1] at hrz
  have hB1 : Blw w W1 := by rw [← hW1]; exact ((Blw.refl w).drew).alloc _
  have HB : Hid (Buf 31 1 (fun b => b = w.heap.size) W1 (.slice (some ⟨w.heap.size, 0, none⟩) 0 G) 0 (fun _ => .slice none 0 0)) := by
    have hr : ∃ f, RowE W1 w.heap.size 31 (G * 1) f := by
      rw [← hW1]
      refine RowE.ex (heap_alloc_new w.drew _) ?_
      simp [Builtin.zeroCells, Value.cells]; omega
    obtain ⟨f, hr⟩ := hr
    exact Buf.of_rowE hr rfl (Nat.zero_le _) hGm (fun i hi => absurd hi (by omega))
  have hg1 : (0 : Int) ≤ (G : Int) := by omega
  have hG0 : ¬ G = 0 := by omega
  have hG63 : G ≤ 9223372036854775807 := by unfold maxLen at hGm; omega
  simp only [Nat.zero_add] at hrz
  clear hold hi0 hz0 hzs hzb hG hW1 hGm
  go_enter Try.func95, Try.ntmps95
  go_wp2_with (at_builtin; refine Lib.wpList_append_run _ rfl _ _ _ _ rfl _ _ rfl rfl _ _ hrz ?_)
  go_ret
  exact ⟨G, rfl, HB.out, hB1⟩
set_option maxRecDepth 100000 in
set_option maxHeartbeats 3200000 in
theorem concat_any (vb : Nat) (a1 a2 : Option Addr) (c1 c2 : Nat) (R : Rws) (Y : Nat → Prop) (w : World) (h0 : w.cell? ⟨vb, 0, none⟩ = some (.slice a1 8 c1)) (h1 : w.cell? ⟨vb, 1, none⟩ = some (.slice a2 8 c2)) (hY : ∀ b, Y b → b < w.heap.size)
    (hn : PSAt Y w a1 (pdn 8 R)) (hf : PSAt Y w a2 (pdn 8 (fun k => R (8 + k)))) :
    Calls Try.prog 76 #[.slice (some ⟨vb, 0, none⟩) 2 2] w fun e w' => ∃ g c, e = .returned (.slice (some ⟨g, 0, none⟩) 16 c) ∧ w.heap.size ≤ g ∧ PSAt (fun b => Y b ∨ b = g) w' (some ⟨g, 0, none⟩) (pdn 16 R) ∧ Blw w w' := by
  obtain ⟨b1, o1, A1, k1, rfl, hY1, hr1⟩ := hn.fn (by omega)
  obtain ⟨b2, o2, A2, k2, rfl, hY2, hr2⟩ := hf.fn (by omega)
  have H0 : Hid (w.cell? ⟨vb, 0, none⟩ = some (.slice (some ⟨b1, o1, none⟩) 8 c1)) := h0
  have H1 : Hid (w.cell? ⟨vb, 1, none⟩ = some (.slice (some ⟨b2, o2, none⟩) 8 c2)) := h1
  have HR1 : Hid (∀ i, i < 8 → w.cell? ⟨b1, o1 + i, none⟩ = some (.slice (A1 i) (R i).length (k1 i)) ∧ UndosAt Y w (A1 i) (R i).length (lf (R i)) (la (R i))) := hr1
  have HR2 : Hid (∀ i, i < 8 → w.cell? ⟨b2, o2 + i, none⟩ = some (.slice (A2 i) (R (8 + i)).length (k2 i)) ∧ UndosAt Y w (A2 i) (R (8 + i)).length (lf (R (8 + i))) (la (R (8 + i)))) := hr2
  obtain ⟨F, hF⟩ : ∃ F : Nat → Value, F = fun i => if i < 8 then .slice (A1 i) (R i).length (k1 i) else .slice (A2 (i - 8)) (R i).length (k2 (i - 8)) := ⟨_, rfl⟩
  have HF : Hid (F = fun i => if i < 8 then .slice (A1 i) (R i).length (k1 i) else .slice (A2 (i - 8)) (R i).length (k2 (i - 8))) := hF
  obtain ⟨i0, hi0, hz0, hzs, hzb⟩ := info_parts sInfo
  have HAPP : Hid (∀ (k : Nat) (W : World) (ao : Option Addr) (n c : Nat), k < 2 → n = 8 * k → Blw w W → Buf 31 1 (fun b => w.heap.size ≤ b) W (.slice ao n c) n F → ∃ ao' c' w', (Builtin.append_ #[23, 23] 23 #[.slice ao n c, .slice (if k = 0 then some ⟨b1, o1, none⟩ else some ⟨b2, o2, none⟩) 8 (if k = 0 then c1 else c2)]).run Try.prog W = .ok (.slice ao' (n + 8) c') w' ∧ Hid (Buf 31 1 (fun b => w.heap.size ≤ b) w' (.slice ao' (n + 8) c') (n + 8) F ∧ Blw w w')) := by
    intro k W ao n c hk hnk hb hB
    have hG : ∀ ad, (if k = 0 then some (⟨b1, o1, none⟩ : Addr) else some ⟨b2, o2, none⟩) = some ad → ∀ j, j < 8 * 1 → W.cell? (ad.add j) = some (F (8 * k + j)) := by
      intro ad e j hj
      by_cases hk0 : k = 0
      · subst hk0
        rw [if_pos rfl] at e; cases e
        rw [Addr.add_mid, hb.cell (hr1 j (by omega)).1, hF]
        simp only [Nat.mul_zero, Nat.zero_add, if_pos (show j < 8 by omega)]
      · obtain rfl : k = 1 := by omega
        rw [if_neg hk0] at e; cases e
        rw [Addr.add_mid, hb.cell (hr2 j (by omega)).1, hF]
        simp only [if_neg (show ¬ 8 * 1 + j < 8 by omega)]
        rw [show 8 * 1 + j - 8 = j by omega, show 8 * 1 + j = 8 + j by omega]
    obtain ⟨ao', c', w', q1, q2, q3⟩ := Buf.append (t := 23) (e := 31) (i := i0) (z := .slice none 0 0) (size := 1) (bytes := 24) Try.underlying23 hi0 hz0 hzs hzb rfl (by decide) hB (ao := if k = 0 then some ⟨b1, o1, none⟩ else some ⟨b2, o2, none⟩) (m := 8) (if k = 0 then c1 else c2) (G := fun j => F (8 * k + j)) (fun e => by split at e <;> cases e) hG (fun j => by rw [hF]; dsimp only; split <;> rfl) (by omega) (by decide) 23
    refine ⟨ao', c', w', q1, (q2.mono (fun b hb2 => hb2.1.elim id (fun e => by have := hb.size; omega))).congr (fun i hi => ?_), Mod.blw hb q3 (fun i e => hB.2 i e)⟩
    unfold cat
    split
    · rfl
    · show F (8 * k + (i - n * 1)) = F i
      congr 1; omega
  clear h0 h1 hn hf hr1 hr2 hi0 hz0 hzs hzb
  go_enter Try.func76, Try.ntmps76
  go_wp2
  go_loopw [3, 11] (fun s3 i wr => ∃ k : Nat, k ≤ 2 ∧ i = .int .i64 k ∧ s3 = .int .i64 (8 * k) ∧ wr = w) (fun _ i _ => 2 - (intOf i).toNat)
  case atStart => exact ⟨0, by omega, rfl, rfl, rfl⟩
  case round =>
    obtain ⟨k, hk, rfl, rfl, hw⟩ := hrel
    have hw2 : w = wr := hw.symm
    subst hw2
    clear hw
    by_cases h2 : k < 2
    · have hk2 : k = 0 ∨ k = 1 := by omega
      rcases hk2 with rfl | rfl
      · have q0 := H0.out
        go_wp2
        go_roundw
        case rel => exact ⟨1, by omega, by go_num, by go_num, by first | rfl | trivial⟩
        case measure => simp [intOf]
      · have q0 := H1.out
        go_wp2
        go_roundw
        case rel => exact ⟨2, by omega, by go_num, by go_num, by first | rfl | trivial⟩
        case measure => simp [intOf]
    · obtain rfl : k = 2 := by omega
      go_wp2_with (first | (go_at_call 95; refine (grow_any _).mono ?_; rintro e w1 ⟨G, rfl, hB, hb⟩))
      have HB0 : Hid (Blw w w1) := hb
      have HBu : Hid (Buf 31 1 (fun b => w.heap.size ≤ b) w1 (.slice (some ⟨w.heap.size, 0, none⟩) 0 G) 0 F) := (hB.mono (fun b e => by omega)).congr (fun i hi => absurd hi (by omega))
      clear hB hb
      go_loopw [6, 27] (fun s6 i w2 => ∃ (k n : Nat) (ao : Option Addr) (c : Nat), k ≤ 2 ∧ i = .int .i64 k ∧ s6 = .slice ao n c ∧ n = 8 * k ∧ Hid (Blw w w2 ∧ Buf 31 1 (fun b => w.heap.size ≤ b) w2 (.slice ao n c) n F)) (fun _ i _ => 2 - (intOf i).toNat)
      case atStart => exact ⟨0, 0, _, G, by omega, rfl, rfl, by omega, ⟨HB0.out, HBu.out⟩⟩
      case round =>
        obtain ⟨k, n, ao, c, hk, rfl, rfl, hn, hS⟩ := hrel
        clear HBu HB0
        by_cases h3 : k < 2
        · obtain ⟨ao', c', w', hrun, hE⟩ := HAPP.out k _ ao n c h3 hn hS.out.1 hS.out.2
          have hk2 : k = 0 ∨ k = 1 := by omega
          rcases hk2 with rfl | rfl
          · have q0 := hS.out.1.cell H0.out
            rw [if_pos rfl, if_pos rfl] at hrun
            clear hS
            go_wp2_with (at_builtin; refine wpList_append_run rfl _ _ 23 rfl _ _ rfl rfl hrun ?_)
            go_roundw
            case rel => exact ⟨1, n + 8, ao', c', by omega, by go_num, by rw [hn], by omega, hE.out.2, hE.out.1⟩
            case measure => simp [intOf]
          · have q0 := hS.out.1.cell H1.out
            rw [if_neg (by omega), if_neg (by omega)] at hrun
            clear hS
            go_wp2_with (at_builtin; refine wpList_append_run rfl _ _ 23 rfl _ _ rfl rfl hrun ?_)
            go_roundw
            case rel => exact ⟨2, n + 8, ao', c', by omega, by go_num, by rw [hn], by omega, hE.out.2, hE.out.1⟩
            case measure => simp [intOf]
        · obtain rfl : k = 2 := by omega
          obtain rfl : n = 16 := by omega
          obtain ⟨hb, hB⟩ := hS.out
          obtain ⟨ao2, cap, e2, hr⟩ := hB.form
          simp only [Value.slice.injEq, true_and] at e2
          obtain ⟨rfl, rfl⟩ := e2
          obtain ⟨g, hg, rfl, hrow⟩ := hr (by omega)
          have HE : Hid (w.heap.size ≤ g ∧ PSAt (fun b => Y b ∨ b = g) wr (some ⟨g, 0, none⟩) (pdn 16 R) ∧ Blw w wr) := by
            refine ⟨hg, ⟨by show 16 ≤ _; omega, fun i hi => ?_⟩, hb⟩
            have hc := hrow.cell (i := i) (by have : i < 16 := hi; omega)
            rw [HF.out] at hc
            by_cases h8 : i < 8
            · dsimp only at hc
              rw [if_pos h8] at hc
              exact ⟨g, 0, A1 i, k1 i, rfl, Or.inr rfl, by rw [Nat.zero_add]; exact hc, ((HR1.out i h8).2.blw hb).mono (fun b => Or.inl)⟩
            · dsimp only at hc
              rw [if_neg h8] at hc
              have hi16 : i < 16 := hi
              have h5 := (HR2.out (i - 8) (by omega)).2
              rw [show 8 + (i - 8) = i by omega] at h5
              exact ⟨g, 0, A2 (i - 8), k2 (i - 8), rfl, Or.inr rfl, by rw [Nat.zero_add]; exact hc, (h5.blw hb).mono (fun b => Or.inl)⟩
          clear hb hB hr hg hrow hS HAPP HR1 HR2 H0 H1
          go_wp2
          go_ret
          first | exact ⟨g, ⟨_, rfl⟩, HE.out⟩ | exact HE.out | exact ⟨g, rfl, HE.out⟩ | exact ⟨g, HE.out⟩ | exact ⟨_, _, HE.out⟩ | (trace_state; sorry)
end Go.Proofs.Ytkmkidahaagbpaa
