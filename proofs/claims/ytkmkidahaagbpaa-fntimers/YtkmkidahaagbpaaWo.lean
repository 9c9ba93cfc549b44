/- A row without a timer, as the model does. -/
import Derived.Test.YtkmkidahaagbpaaPut
namespace Go.Proofs.Ytkmkidahaagbpaa
open Go.RowKit
set_option linter.unusedSimpArgs false
set_option linter.unusedVariables false
theorem take_next {l : List Tm} {j : Nat} (h : j < l.length) : l.take (j + 1) = l.take j ++ [nth l j] := by
  rw [nth_get h]; first | exact (List.take_append_getElem h).symm | simp
abbrev flt (id : Int) (l : List Tm) : List Tm := l.filter (fun t => t.1 != id)
theorem flt_next {l : List Tm} {j : Nat} {id : Int} (h : j < l.length) : flt id (l.take (j + 1)) = if (nth l j).1 = id then flt id (l.take j) else flt id (l.take j) ++ [nth l j] := by
  unfold flt
  rw [take_next h, List.filter_append]
  split
  · rename_i e; simp [e]
  · rename_i e; simp [e]
theorem flt_len (id : Int) (l : List Tm) (j : Nat) : (flt id (l.take j)).length ≤ l.length := by
  have h1 : (flt id (l.take j)).length ≤ (l.take j).length := List.length_filter_le _ _
  rw [List.length_take] at h1
  omega
set_option maxRecDepth 100000 in
set_option maxHeartbeats 1600000 in
theorem l11Without_any (ao : Option Addr) (c0 : Nat) (l : List Tm) (id : Int) (Y : Nat → Prop) (w : World) (hn : l.length ≤ 1000) (h : UndosAt Y w ao l.length (lf l) (la l)) :
    Calls Try.prog 65 #[.slice ao l.length c0, .int .i64 id] w fun e w' => ∃ a' c', e = .returned (.slice a' (flt id l).length c') ∧ Hid (LB (fun b => w.heap.size ≤ b) w' a' c' (flt id l) ∧ Blw w w') := by
  have HU : Hid (UndosAt Y w ao l.length (lf l) (la l)) := h
  have HLN : Hid (l.length ≤ 1000) := hn
  clear h
  go_enter Try.func65, Try.ntmps65
  go_wp2_with fail
  go_loopw [5, 10] (fun s5 i wr => ∃ (j : Nat) (n : Nat) (a : Option Addr) (c : Nat), j ≤ l.length ∧ i = .int .i64 j ∧ s5 = .slice a n c ∧ n = (flt id (l.take j)).length ∧ Hid (LB (fun b => w.heap.size ≤ b) wr a c (flt id (l.take j)) ∧ Blw w wr)) (fun _ i _ => l.length - (intOf i).toNat)
  case atStart => exact ⟨0, 0, none, 0, by omega, rfl, rfl, rfl, Buf.nil _ _ _ _ _, Blw.refl _⟩
  case round =>
    obtain ⟨j, n, a, c, hj, rfl, rfl, hn2, hE⟩ := hrel
    by_cases hjl : j < l.length
    · obtain ⟨bb, oo, rfl, -, g0, g1⟩ := (HU.out.blw hE.out.2).2 j hjl
      simp only [lf, la] at g0 g1
      have hba : Blw wr (wr.alloc (.cells #[.int .i64 (nth l j).1, .int .i64 (nth l j).2] 39)) := (Blw.refl _).alloc _
      have HB : Hid (LB (fun b => w.heap.size ≤ b) (wr.alloc (.cells #[.int .i64 (nth l j).1, .int .i64 (nth l j).2] 39)) a c (flt id (l.take j)) ∧ Blw w (wr.alloc (.cells #[.int .i64 (nth l j).1, .int .i64 (nth l j).2] 39))) := ⟨hE.out.1.blw hba, hE.out.2.trans hba⟩
      obtain ⟨q0, q1⟩ := get2 (box2 wr (.int .i64 (nth l j).1) (.int .i64 (nth l j).2) 39)
      clear hba hE
      go_upto_region 5 with fail
      clear g0 g1
      generalize wr.alloc (.cells #[.int .i64 (nth l j).1, .int .i64 (nth l j).2] 39) = W3 at *
      have hfn := flt_next (id := id) hjl
      by_cases hx : (nth l j).1 = id
      · rw [if_pos hx] at hfn
        have HFN : Hid (flt id (l.take (j + 1)) = flt id (l.take j)) := hfn
        clear hfn
        go_wp2_with fail
        go_roundw
        case rel => exact ⟨j + 1, n, a, c, by omega, by go_num, rfl, by rw [HFN.out]; exact hn2, by rw [HFN.out]; exact HB.out⟩
        case measure => simp [intOf]; omega
      · rw [if_neg hx] at hfn
        have HFN : Hid (flt id (l.take (j + 1)) = flt id (l.take j) ++ [nth l j]) := hfn
        have hlen := flt_len id l j
        obtain ⟨x2, d2, v2, hrun, hB2, hm2⟩ := LB.app (HB.out.1.blw ((Blw.refl W3).alloc (.cells #[.int .i64 (nth l j).1, .int .i64 (nth l j).2] 39))) (m := [nth l j]) 1 (one_tm W3 (nth l j)) (by simp only [List.length_singleton]; omega) 31
        have hs := HB.out.2.size
        have HF : Hid (LB (fun b => w.heap.size ≤ b) v2 x2 d2 (flt id (l.take j) ++ [nth l j]) ∧ Blw w v2) := ⟨hB2.mono (fun b hb => by rcases hb.1 with h6 | h6; exact h6; (have h7 : b = W3.heap.size + 1 := by rw [h6, World.size_alloc]); omega), Mod.blw (HB.out.2.alloc _) hm2 (fun i e => HB.out.1.2 i e)⟩
        rw [← hn2] at hrun
        simp only [List.length_singleton] at hrun
        rw [← hfn] at hrun HF
        obtain ⟨L2, hL2⟩ : ∃ L, flt id (l.take (j + 1)) = L := ⟨_, rfl⟩
        rw [hL2] at hrun HF
        have HL2 : Hid (flt id (l.take (j + 1)) = L2) := hL2
        clear hfn hlen hB2 hm2 hs hL2
        go_wp2_with (first | (at_builtin; refine wpList_append_run rfl _ _ 31 rfl _ _ rfl rfl hrun ?_))
        go_roundw
        case rel => exact ⟨j + 1, L2.length, x2, d2, by omega, by go_num, rfl, by rw [HL2.out], by rw [HL2.out]; exact HF.out⟩
        case measure => simp [intOf]; omega
    · obtain rfl : j = l.length := by omega
      rw [List.take_length] at hn2 hE
      have HE : Hid (LB (fun b => w.heap.size ≤ b) wr a c (flt id l) ∧ Blw w wr) := hE.out
      have HN : Hid (n = (flt id l).length) := hn2
      clear hn2 hE
      go_wp2_with fail
      go_ret
      have hn2 := HN.out
      subst hn2
      first | exact ⟨a, c, rfl, HE.out⟩ | exact ⟨a, ⟨c, rfl⟩, HE.out⟩ | exact ⟨⟨a, c, rfl⟩, HE.out⟩
end Go.Proofs.Ytkmkidahaagbpaa
