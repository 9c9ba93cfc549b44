/- MappedIn: the program's. -/
import Derived.Test.YtjplodenflkghaaMapped
namespace Go.Proofs.Ytjplodenflkghaa
open Go.RowKit
set_option linter.unusedSimpArgs false
set_option linter.unusedVariables false
theorem box1 (w : World) (v : Value) (t : TypeId) : Row (w.alloc (.cells #[v] t)) w.heap.size 1 (fun _ => v) :=
  ⟨_, t, heap_alloc_new _ _, by simp, fun i hi => by obtain rfl : i = 0 := by omega
                                                     rfl⟩
/-- A list that is gathered in a box at pb, behind w. -/
structure GB (w wr : World) (pb zk : Nat) (F : Nat → Value) (v : Value) (L : List Nat) : Prop where
  box : Row wr pb 1 (fun _ => v)
  buf : BufL (fun x => w.heap.size ≤ x ∧ x < wr.heap.size ∧ x ≠ pb ∧ x ≠ zk) wr v L
  blw : Blw w wr
  lo : w.heap.size ≤ pb
  kp : Row wr zk 5 F
  ne : zk ≠ pb
theorem GB.go {w wr w' : World} {pb zk : Nat} {F : Nat → Value} {v : Value} {L : List Nat} (h : GB w wr pb zk F v L) (hb : Blw wr w') : GB w w' pb zk F v L :=
  ⟨h.box.blw hb, (Buf.blw h.buf hb).mono (fun x hx => ⟨hx.1, Nat.lt_of_lt_of_le hx.2.1 hb.size, hx.2.2⟩), h.blw.trans hb, h.lo, h.kp.blw hb, h.ne⟩
theorem GB.push {w wr : World} {pb zk : Nat} {F : Nat → Value} {v : Value} {L : List Nat} (h : GB w wr pb zk F v L) (hn : L.length ≤ 1048576) (x : Nat) :
    ∃ ao' cap w', (Builtin.append_ #[26, 26] 26 #[v, .slice (some ⟨wr.heap.size, 0, none⟩) 1 1]).run Try.prog (wr.alloc (.cells #[.int .i64 x] 3)) = .ok (.slice ao' (L.length + 1) cap) w' ∧ w'.cell? ⟨pb, 0, none⟩ = some v ∧ w'.frozen? ⟨pb, 0, none⟩ = false ∧ GB w (w'.setCell ⟨pb, 0, none⟩ (.slice ao' (L.length + 1) cap)) pb zk F (.slice ao' (L.length + 1) cap) (L ++ [x]) := by
  obtain ⟨a, cap, w', h1, h2, h3⟩ := h.buf.push hn x
  have hs := h.blw.size
  have hpl := h.box.lt
  have hkl := h.kp.lt
  have hs3 := h3.size
  have hx : ∀ b, v.ownBlock = some b → w.heap.size ≤ b ∧ b ≠ pb ∧ b ≠ zk := fun b hb => ⟨(h.buf.2 b hb).1, (h.buf.2 b hb).2.2⟩
  have rb := h.box.mod h3 (fun e => (hx _ e).2.1 rfl)
  have ms : Mod (fun x => x = pb) w' (w'.setCell ⟨pb, 0, none⟩ (.slice a (L.length + 1) cap)) := Mod.setCell (X := fun x => x = pb) _ (p := ⟨pb, 0, none⟩) rfl _
  have hs4 := ms.size
  refine ⟨a, cap, w', h1, rb.cell (i := 0) (by omega), rb.frozen 0, ⟨(rb.set 0 _).congr (fun i hi => by obtain rfl : i = 0 := by omega
                                                                                                        rfl), (Buf.mod (X := fun x => w.heap.size ≤ x ∧ x < w'.heap.size ∧ x ≠ pb ∧ x ≠ zk) (Buf.mono h2 (fun b hb => ?_)) ms (fun b hb e => hb.2.2.1 e)).mono (fun b hb => ⟨hb.1, by omega, hb.2.2⟩), Mod.blw (Mod.blw h.blw h3 (fun b hb => (hx b hb).1)) ms (fun i hi => by have := h.lo; omega), h.lo, (h.kp.mod h3 (fun e => (hx _ e).2.2 rfl)).mod ms h.ne, h.ne⟩⟩
  rcases hb.1 with q | q
  · exact ⟨q.1, hb.2, q.2.2⟩
  · exact ⟨by omega, hb.2, by omega, by omega⟩
def addM (L : List Nat) (a : Nat) (y : Int) : List Nat := if 0 < y then L ++ [a] else L
theorem addM_yes {L : List Nat} {a : Nat} {y : Int} (h : 0 < y) : addM L a y = L ++ [a] := if_pos h
theorem addM_no {L : List Nat} {a : Nat} {y : Int} (h : ¬ 0 < y) : addM L a y = L := if_neg h
theorem mp_next (c : Nat → Int) (m : Nat → Nat → Int) (j : Nat) : addM (pk (mpP c m) j) j (lfP c m j) = pk (mpP c m) (j + 1) := by
  by_cases h : 0 < lfP c m j
  · rw [addM_yes h, pk_yes (by simp [mpP, h])]
  · rw [addM_no h, pk_no (by simp [mpP]; omega)]
end Go.Proofs.Ytjplodenflkghaa
