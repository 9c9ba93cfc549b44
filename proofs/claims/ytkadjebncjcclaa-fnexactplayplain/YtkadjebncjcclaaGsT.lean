/- A table and answers that grow: the model's PlayPlain. -/
import Derived.Test.YtkadjebncjcclaaPlayA
import Derived.Test.YtkadjebncjcclaaChgS
import Derived.Test.YtkadjebncjcclaaNewS
import Derived.Test.YtkadjebncjcclaaWalk
namespace Go.Proofs.Ytkadjebncjcclaa
open Go.RowKit
set_option linter.unusedSimpArgs false
set_option linter.unusedVariables false
/-- A table in a box at zt and a list v of answers that grows, both behind w. -/
structure GS (w wr : World) (zt : Nat) (b : BV) (B : BD) (v : Value) (n : Nat) (f : Nat → Int) : Prop where
  tab : TS (fun x => v.ownBlock = some x) wr zt b B
  buf : BufI (fun x => w.heap.size ≤ x ∧ x < wr.heap.size ∧ x ≠ zt) wr v n f
  blw : Blw w wr
  lo : w.heap.size ≤ zt
  sm : B.n ≤ 1048576
theorem GS.go {w wr w' : World} {zt : Nat} {b : BV} {B : BD} {v : Value} {n : Nat} {f : Nat → Int} (h : GS w wr zt b B v n f) (hb : Blw wr w') : GS w w' zt b B v n f :=
  ⟨h.tab.blw hb, (Buf.blw h.buf hb).mono (fun x hx => ⟨hx.1, Nat.lt_of_lt_of_le hx.2.1 hb.size, hx.2.2⟩), h.blw.trans hb, h.lo, h.sm⟩
theorem GS.push {w wr : World} {zt : Nat} {b : BV} {B : BD} {v : Value} {n : Nat} {f : Nat → Int} (h : GS w wr zt b B v n f) (hn : n ≤ 1048576) (x : Int) :
    ∃ ao' cap w', (Builtin.append_ #[26, 26] 26 #[v, .slice (some ⟨wr.heap.size, 0, none⟩) 1 1]).run Try.prog (wr.alloc (.cells #[.int .i64 x] 3)) = .ok (.slice ao' (n + 1) cap) w' ∧ GS w w' zt b B (.slice ao' (n + 1) cap) (n + 1) (fun i => if i = n then x else f i) := by
  have hX : BufI (fun x => v.ownBlock = some x) wr v n f := ⟨h.buf.1, fun g hg => hg⟩
  obtain ⟨a, cap, w', h1, h2, h3⟩ := pushI hX hn x
  have hs := h.blw.size
  have hs3 := h3.size
  have hzt := h.tab.box.lt
  have hlo := h.lo
  have hx : ∀ b, v.ownBlock = some b → w.heap.size ≤ b ∧ b < wr.heap.size ∧ b ≠ zt := fun b hb => h.buf.2 b hb
  refine ⟨a, cap, w', h1, ⟨⟨h.tab.box.mod h3 (fun e => (hx _ e).2.2 rfl), (h.tab.at_.mod h3 (fun x hx e => hx.1 e)).mono (fun x hx2 => ⟨fun e => ?_, by omega, hx2.2.2⟩)⟩, (Buf.congr (Buf.mono h2 (fun b hb => ?_)) (fun i hi => ?_)), Mod.blw h.blw h3 (fun b hb => (hx b hb).1), hlo, h.sm⟩⟩
  · rcases (h2.2 x e).1 with q | q
    · exact hx2.1 q
    · have := hx2.2.1; omega
  · rcases hb.1 with q | q
    · have := hx b q; exact ⟨this.1, hb.2, this.2.2⟩
    · exact ⟨by omega, hb.2, by omega⟩
  · simp only [ic, snoc', Nat.mul_one] at *
theorem GS.upd {w W : World} {zt : Nat} {b b3 : BV} {B R : BD} {v : Value} {n : Nat} {f : Nat → Int} {X : Nat → Prop} (h : GS w W zt b B v n f) (own : BookAt X W b3 R) (hX : ∀ x, X x → x ≠ zt ∧ (¬ v.ownBlock = some x) ∧ x < W.heap.size) (hs : R.n ≤ 1048576) :
    GS w ((W.setCell ⟨zt, 0, none⟩ (.slice b3.a1 R.n b3.c1)).setCell ⟨zt, 1, none⟩ (.slice b3.a2 R.D.n b3.c2)) zt b3 R v n f := by
  have m3 := set2_mod (X := fun x => x = zt) W rfl (.slice b3.a1 R.n b3.c1) (.slice b3.a2 R.D.n b3.c2)
  have hsz := m3.size
  have hlo := h.lo
  exact ⟨⟨row2_set h.tab.box, (own.mod m3 (fun x hx e => (hX x hx).1 e)).mono (fun x hx => by have := hX x hx; exact ⟨this.2.1, by omega, this.1⟩)⟩, (Buf.mod h.buf m3 (fun x hx e => hx.2.2 e)).mono (fun x hx => ⟨hx.1, by omega, hx.2.2⟩), Mod.blw h.blw m3 (fun x hx => by omega), hlo, hs⟩
theorem GS.own {w wr : World} {zt : Nat} {b : BV} {B : BD} {v : Value} {n : Nat} {f : Nat → Int} (h : GS w wr zt b B v n f) (hn : n ≤ 1048576) : ∃ ao cap, v = .slice ao n cap ∧ IntsOwn (fun x => w.heap.size ≤ x ∧ x < wr.heap.size) wr ao n f := by
  obtain ⟨ao, cap, e, ho⟩ := BufI.own h.buf (by omega)
  exact ⟨ao, cap, e, ho.mono (fun x hx => ⟨hx.1, hx.2.1⟩)⟩
end Go.Proofs.Ytkadjebncjcclaa
