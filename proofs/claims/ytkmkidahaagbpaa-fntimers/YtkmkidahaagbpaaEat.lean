/- The Ids of a row. -/
import Derived.Test.YtkmkidahaagbpaaTkm
import Derived.Test.YtkmkidahaagbpaaSml
import Derived.Test.YtkmkidahaagbpaaPsL
namespace Go.Proofs.Ytkmkidahaagbpaa
open Go.RowKit
set_option linter.unusedSimpArgs false
set_option linter.unusedVariables false
set_option maxRecDepth 10000 in
set_option maxHeartbeats 800000 in
theorem eachT_any (ao : Option Addr) (c : Nat) (l : List Tm) (Y : Nat → Prop) (w : World) (hn : l.length ≤ 1000) (h : UndosAt Y w ao l.length (lf l) (la l)) :
    Calls Try.prog 81 #[.slice ao l.length c, .func (.func 82) #[] #[]] w fun e w' => e = .returned (.slice (some ⟨w.heap.size, 0, none⟩) l.length l.length) ∧ Hid (Row w' w.heap.size l.length (fun i => .int .i64 (lf l i)) ∧ Blw w w') := by
  have H : Hid (UndosAt Y w ao l.length (lf l) (la l)) := h
  clear h
  have hmk := mkInts l.length (by omega)
  obtain ⟨L, hL⟩ : ∃ L, l.length = L := ⟨_, rfl⟩
  rw [hL] at hmk hn H ⊢
  go_enter Try.func81, Try.ntmps81
  go_wp2
  clear hmk
  go_loopw [13] (fun i wr => ∃ j : Nat, j ≤ L ∧ i = .int .i64 j ∧ Row wr w.heap.size L (fun t => .int .i64 (if t < j then lf l t else 0)) ∧ Blw w wr) (fun i _ => L - (intOf i).toNat)
  case atStart => exact ⟨0, Nat.zero_le _, rfl, (Row.made w (.int .i64 0) L 3).congr (fun i _ => by simp), (Blw.refl _).alloc _⟩
  case round =>
    obtain ⟨j, hj, rfl, hr, hb⟩ := hrel
    have HR : Hid (Row wr w.heap.size L (fun t => .int .i64 (if t < j then lf l t else 0))) := hr
    have HB : Hid (Blw w wr) := hb
    clear hr hb
    by_cases hlt : j < L
    · obtain ⟨b, o, rfl, -, g1, g2⟩ := (H.out.blw HB.out).2 j hlt
      have hlt' : (j : Int) < L := by omega
      have hw := HR.out.lt
      clear H
      simp only [lf, la] at g1 g2
      go_wp2_with fail
      refine (idOf_any (nth l j) _).mono ?_
      rintro e w1 ⟨rfl, hb1⟩
      replace hb1 := ((Blw.refl wr).alloc _).trans hb1
      clear g1 g2
      have HR1 : Hid (Row w1 w.heap.size L (fun t => .int .i64 (if t < j then lf l t else 0))) := HR.out.blw hb1
      have HB1 : Hid (Blw w w1) := HB.out.trans hb1
      clear HR HB hb1
      have p0 := HR1.out.cell (i := j) (by omega)
      have f0 := HR1.out.frozen j
      go_wp2
      go_roundw
      case rel =>
        refine ⟨j + 1, by omega, by go_num, (HR1.out.set j (.int .i64 (lf l j))).congr fun i hi => ?_, HB1.out.setCell (Nat.le_refl _) _⟩
        by_cases e : i = j
        · subst e; simp
        · simp only [if_neg e, show (i < j + 1) = (i < j) by apply propext; omega]
      case measure => simp [intOf]; omega
    · go_wp2
      go_ret
      obtain rfl : j = L := by omega
      refine ⟨rfl, HR.out.congr fun i hi => ?_, HB.out⟩
      simp [hi]
end Go.Proofs.Ytkmkidahaagbpaa
