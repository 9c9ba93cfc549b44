/- The program's free blocks: five lists that grow. -/
import Derived.Test.YtfmmpddknanhbaaBlkM
namespace Go.Proofs.Ytfmmpddknanhbaa
open Go.RowKit
set_option linter.unusedSimpArgs false
set_option linter.unusedVariables false
/-- Five lists in a new slice at zf, each its own. -/
structure Bl (w wr : World) (zf : Nat) (v : Nat → Value) (L : Nat → List Nat) : Prop where
  row : Row wr zf 5 v
  buf : ∀ i, i < 5 → BufL (fun x => w.heap.size ≤ x ∧ x < wr.heap.size ∧ x ≠ zf) wr (v i) (L i)
  disj : ∀ i j, i < 5 → j < 5 → i ≠ j → ∀ b, (v i).ownBlock = some b → ¬ (v j).ownBlock = some b
  blw : Blw w wr
  lo : w.heap.size ≤ zf
def updV {α : Type} (v : Nat → α) (k : Nat) (x : α) : Nat → α := fun i => if i = k then x else v i
theorem Bl.go {w wr w' : World} {zf : Nat} {v : Nat → Value} {L : Nat → List Nat} (h : Bl w wr zf v L) (hb : Blw wr w') : Bl w w' zf v L :=
  ⟨h.row.blw hb, fun i hi => (Buf.blw (h.buf i hi) hb).mono (fun x hx => ⟨hx.1, Nat.lt_of_lt_of_le hx.2.1 hb.size, hx.2.2⟩), h.disj, h.blw.trans hb, h.lo⟩
theorem Bl.form {w wr : World} {zf : Nat} {v : Nat → Value} {L : Nat → List Nat} (h : Bl w wr zf v L) {i : Nat} (hi : i < 5) : ∃ ao cap, v i = .slice ao (L i).length cap := by
  obtain ⟨ao, cap, e, -⟩ := Buf.form (h.buf i hi)
  exact ⟨ao, cap, e⟩
theorem Bl.push {w wr : World} {zf : Nat} {v : Nat → Value} {L : Nat → List Nat} (h : Bl w wr zf v L) {k : Nat} (hk : k < 5) (hn : (L k).length ≤ 1048576) (p : Nat) :
    ∃ ao cap w2, (Builtin.append_ #[23, 23] 23 #[v k, .slice (some ⟨wr.heap.size, 0, none⟩) 1 1]).run Try.prog (wr.alloc (.cells #[.int .i64 p] 3)) = .ok (.slice ao ((L k).length + 1) cap) w2 ∧ w2.cell? ⟨zf, k, none⟩ = some (v k) ∧ w2.frozen? ⟨zf, k, none⟩ = false ∧
      Bl w (w2.setCell ⟨zf, k, none⟩ (.slice ao ((L k).length + 1) cap)) zf (updV v k (.slice ao ((L k).length + 1) cap)) (updV L k (L k ++ [p])) := by
  have hX : BufL (fun b => (v k).ownBlock = some b) wr (v k) (L k) := ⟨(h.buf k hk).1, fun g hg => hg⟩
  obtain ⟨ao, cap, w2, hrun, hB, hM⟩ := hX.push hn p
  have hkb : ∀ b, (v k).ownBlock = some b → w.heap.size ≤ b ∧ b < wr.heap.size ∧ b ≠ zf := fun b hb => (h.buf k hk).2 b hb
  have hzl := h.row.lt
  have hrow : Row w2 zf 5 v := h.row.mod hM (fun e => (hkb _ e).2.2 rfl)
  have ms : Mod (fun x => x = zf) w2 (w2.setCell ⟨zf, k, none⟩ (.slice ao ((L k).length + 1) cap)) := Mod.setCell (X := fun x => x = zf) _ (p := ⟨zf, k, none⟩) rfl _
  have s1 := hM.size
  have s2 := ms.size
  have h0 := h.blw.size
  have hob : ∀ b, (Value.slice ao ((L k).length + 1) cap).ownBlock = some b → ((v k).ownBlock = some b ∨ wr.heap.size < b) ∧ b < w2.heap.size := fun b hb => hB.2 b hb
  refine ⟨ao, cap, w2, hrun, hrow.cell hk, hrow.frozen k, ⟨?_, fun i hi => ?_, fun i j hi hj hne b hb hb' => ?_, ?_, h.lo⟩⟩
  · exact (hrow.set k _).congr (fun i hi => rfl)
  · by_cases e : i = k
    · subst e
      simp only [updV, if_pos rfl]
      refine Buf.mod ⟨hB.1, fun g hg => ?_⟩ ms (fun b hb e => hb.2.2 e)
      have := hob g hg
      rcases this.1 with h1 | h1
      · have := hkb g h1; exact ⟨this.1, by omega, this.2.2⟩
      · exact ⟨by omega, by omega, by omega⟩
    · simp only [updV, if_neg e]
      have hb1 : BufL (fun b => (v i).ownBlock = some b) wr (v i) (L i) := ⟨(h.buf i hi).1, fun g hg => hg⟩
      have hb2 := Buf.mod hb1 hM (fun b hb hk' => h.disj i k hi hk e b hb hk')
      refine Buf.mod ⟨hb2.1, fun g hg => ?_⟩ ms (fun b hb e => hb.2.2 e)
      have := (h.buf i hi).2 g hg
      exact ⟨this.1, by omega, this.2.2⟩
  · by_cases ei : i = k
    · have ej : j ≠ k := fun e => hne (ei.trans e.symm)
      rw [show updV v k (Value.slice ao ((L k).length + 1) cap) i = _ from if_pos ei] at hb
      rw [show updV v k (Value.slice ao ((L k).length + 1) cap) j = v j from if_neg ej] at hb'
      rcases (hob b hb).1 with h1 | h1
      · exact h.disj k j hk hj (fun e => ej e.symm) b h1 hb'
      · have := (h.buf j hj).2 b hb'; omega
    · rw [show updV v k (Value.slice ao ((L k).length + 1) cap) i = v i from if_neg ei] at hb
      by_cases ej : j = k
      · rw [show updV v k (Value.slice ao ((L k).length + 1) cap) j = _ from if_pos ej] at hb'
        rcases (hob b hb').1 with h1 | h1
        · exact h.disj k i hk hi (fun e => ei e.symm) b h1 hb
        · have := (h.buf i hi).2 b hb; omega
      · rw [show updV v k (Value.slice ao ((L k).length + 1) cap) j = v j from if_neg ej] at hb'
        exact h.disj i j hi hj hne b hb hb'
  · exact Mod.blw (Mod.blw h.blw hM (fun b hb => (hkb b hb).1)) ms (fun i hi => by have := h.lo; omega)
theorem wrap_pow {k : Nat} (hk : k ≤ 4) : wrap64 ((2 : Int) ^ k) = ((2 ^ k : Nat) : Int) := by
  rcases le4 hk with rfl | rfl | rfl | rfl | rfl <;> first | decide | (simp [wrap64]; done) | (unfold wrap64; omega)
theorem info23 : (Try.prog.info? 23).map (fun i => (i.zero, i.size, i.bytes)) = some (some (.slice none 0 0), 1, 24) := by kernel_rfl
theorem mkRows (w : World) : (Instr.makeSlice 35 (.int .i64 5) (.int .i64 5)).run Try.prog w = .ok (.slice (some ⟨w.heap.size, 0, none⟩) 5 5) (w.alloc (.cells (madeCells #[.slice none 0 0] 5) 23)) :=
  run_make_row' (P := Try.prog) 35 23 (.slice none 0 0) 24 Try.underlying35 info23 rfl .i64 .i64 5 (by omega) (by omega) w
set_option maxRecDepth 10000 in
set_option maxHeartbeats 3200000 in
theorem freeBlocks_any (z : Nat) (B : BD) (w : World) (g : B.Good) (h : Row w z (16 * 2) (uc B.c B.l)) :
    Calls Try.prog 59 #[.slice (some ⟨z, 0, none⟩) 16 16] w fun e w' => ∃ zf v, e = .returned (.slice (some ⟨zf, 0, none⟩) 5 5) ∧ Bl w w' zf v (blocks B.c) := by
  have H : Hid (Row w z (16 * 2) (uc B.c B.l)) := h
  have HG : Hid B.Good := g
  have hmk := mkRows w
  clear h g
  go_enter Try.func59, Try.ntmps59
  go_wp2_with fail
  clear hmk
  go_loopw [4] (fun i wr => ∃ p : Nat, p ≤ 16 ∧ i = .int .i64 p ∧ inv B.c p ∧ ∃ v, Bl w wr w.heap.size v (fun k => pk (blkB B.c k) p)) (fun i _ => 16 - (intOf i).toNat)
  case atStart => exact ⟨0, by omega, rfl, inv_zero _, fun _ => .slice none 0 0, ⟨(Row.made w (.slice none 0 0) 5 23), fun i hi => BufL.nil _ _, fun i j hi hj hne b hb => by simp [Value.ownBlock] at hb, (Blw.refl _).alloc _, Nat.le_refl _⟩⟩
  case round =>
    obtain ⟨p, hp, rfl, hi, v, hB⟩ := hrel
    have HI : Hid (inv B.c p) := hi
    have HBl : Hid (Bl w wr w.heap.size v (fun k => pk (blkB B.c k) p)) := hB
    clear hi hB
    by_cases hlt : p < 16
    · have hlt' : (p : Int) < 16 := by omega
      go_wp2_with fail
      refine (greatest_any z p B _ hlt HG.out (H.out.blw HBl.out.blw)).mono ?_
      rintro e w1 ⟨h1, hb1⟩
      replace HBl : Hid (Bl w w1 w.heap.size v (fun k => pk (blkB B.c k) p)) := HBl.out.go hb1
      clear hb1
      rcases h1 with ⟨k, hk, hgr, hgt, rfl⟩ | ⟨hno, rfl⟩
      · have HGR : Hid (grOK B.c p k) := hgr
        have HGT : Hid (∀ k', k < k' → k' ≤ 4 → ¬ grOK B.c p k') := hgt
        have hfit := gr_fit hk hgr hlt
        clear hgr hgt
        have hle := pk_len (blkB B.c k) p
        have hk5 : k < 5 := by omega
        have hk5' : (k : Int) < 5 := by omega
        obtain ⟨ao, cap, w2, hrun, hc2, hf2, hB2⟩ := HBl.out.push hk5 (by omega) p
        have hc1 := HBl.out.row.cell hk5
        have HRN : Hid _ := hrun
        have HN : Hid (Bl w (w2.setCell ⟨w.heap.size, k, none⟩ (.slice ao ((pk (blkB B.c k) p).length + 1) cap)) w.heap.size (updV v k (.slice ao ((pk (blkB B.c k) p).length + 1) cap)) (fun k' => pk (blkB B.c k') (p + 2 ^ k))) := by
          refine ⟨hB2.row, fun i hi => ?_, hB2.disj, hB2.blw, hB2.lo⟩
          have := hB2.buf i hi
          by_cases e : i = k
          · subst e
            rw [blocks_this hk HGR.out HGT.out HI.out]
            simpa [updV] using this
          · rw [blocks_other hk HGR.out HGT.out (by omega) e]
            simpa [updV, e] using this
        have HNI : Hid (inv B.c (p + 2 ^ k)) := inv_next hk HGR.out HGT.out HI.out
        have hsh := shl_i (ord_nat hk)
        have hbz := bsz_nat k
        obtain ⟨S, hS⟩ : ∃ S, S = 2 ^ k := ⟨_, rfl⟩
        have hS1 : 1 ≤ S := by rw [hS]; exact Nat.two_pow_pos k
        rw [hbz, ← hS] at hsh
        rw [← hS] at HN HNI hfit
        have e1 : IntKind.i64.wrap ((p : Int) + (S : Int)) = ((p + S : Nat) : Int) := by rw [IntKind.wrap_i64] <;> omega
        have e2 : wrap64 ((2 : Int) ^ k) = (S : Int) := by rw [hS]; exact wrap_pow hk
        have e3 : wrap64 ((p : Int) + (S : Int)) = ((p + S : Nat) : Int) := by unfold wrap64; omega
        clear hrun hB2 HBl HI HGR HGT hle hbz hS
        go_wp2_with (first | (at_builtin; refine wpList_app (.tmp 25) (.tmp 27) 23 (by rfl) ?_; refine ⟨_, _, HRN.out, ?_⟩) | fail)
        go_roundw
        case rel => exact ⟨p + S, by omega, by go_num, HNI.out, _, HN.out⟩
        case measure => simp [intOf]; omega
      · have HN : Hid (Bl w w1 w.heap.size v (fun k => pk (blkB B.c k) (p + 1))) := by
          refine ⟨HBl.out.row, fun i hi => ?_, HBl.out.disj, HBl.out.blw, HBl.out.lo⟩
          have := HBl.out.buf i hi
          show BufL _ w1 (v i) (pk (blkB B.c i) (p + 1))
          rw [blocks_none (by omega) hno HI.out]
          exact this
        have HNI : Hid (inv B.c (p + 1)) := (none_at hno HI.out).1
        clear hno HBl HI
        go_wp2
        go_roundw
        case rel => exact ⟨p + 1, by omega, by go_num, HNI.out, _, HN.out⟩
        case measure => simp [intOf]; omega
    · obtain rfl : p = 16 := by omega
      go_wp2
      go_ret
      exact ⟨_, v, rfl, HBl.out⟩
end Go.Proofs.Ytfmmpddknanhbaa
