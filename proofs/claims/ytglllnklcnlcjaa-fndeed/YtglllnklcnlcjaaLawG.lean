/- What stands in the laws on functions of a memory and more that answer a memory and a bool, where a box may be made ahead of what it holds. -/
import Derived.Test.YtglllnklcnlcjaaLawSt
import Derived.Test.YtglllnklcnlcjaaFailP
namespace Go.Proofs.Ytglllnklcnlcjaa
open Go.RowKit
set_option linter.unusedSimpArgs false
theorem Mod.drew {X : Nat → Prop} {a b : World} (h : Mod X a b) : Mod X a b.drew := ⟨h.os, h.tape, h.output, h.size, h.block⟩
theorem Mod.alloc {X : Nat → Prop} {a b : World} (h : Mod X a b) (o : Obj) : Mod X a (b.alloc o) := h.trans (((Blw.refl b).alloc o).mod X)
theorem Mod.setBlw {X : Nat → Prop} {a b c : World} (h : Mod X a b) (k : Blw b c) : Mod X a c := h.trans (k.mod X)
theorem box3_mod {w : World} {B R : Nat} {a b c : Value} (r : Row w B 3 (fun i => if i = 0 then a else if i = 1 then b else c)) (hR : B ≠ R) :
    (∀ w', Mod (fun x => x = R) w w' → w'.cell? ⟨B, 0, none⟩ = some a) ∧ (∀ w', Mod (fun x => x = R) w w' → w'.cell? ⟨B, 1, none⟩ = some b) ∧ (∀ w', Mod (fun x => x = R) w w' → w'.cell? ⟨B, 2, none⟩ = some c) :=
  ⟨fun _ h => (get3 (r.mod h hR)).1, fun _ h => (get3 (r.mod h hR)).2.1, fun _ h => (get3 (r.mod h hR)).2.2⟩
theorem box_put {w : World} {R : Nat} {f : Nat → Value} (r : Row w R 3 f) (a b c : Value) : Row (((w.setCell ⟨R, 0, none⟩ a).setCell ⟨R, 1, none⟩ b).setCell ⟨R, 2, none⟩ c) R 3 (fun i => if i = 0 then a else if i = 1 then b else c) :=
  (((r.set 0 a).set 1 b).set 2 c).congr (fun i hi => by
    match i, hi with
    | 0, _ => rfl
    | 1, _ => rfl
    | 2, _ => rfl)
/-- A memory in its own box at z, all of it newer than w1. -/
structure Boxed (w1 W : World) (z : Nat) (m : MV) (M : MD) : Prop where
  blw : Blw w1 W
  lo : w1.heap.size ≤ z
  box : Box W z m M
  own : MemOwn (fun b => w1.heap.size ≤ b ∧ b < W.heap.size ∧ b ≠ z) W m M
theorem Boxed.late {w1 w4 : World} {X : Nat → Prop} {m : MV} {M : MD} (hb : Blw w1 w4) (own : MemOwn X w4 m M) (hX : ∀ b, X b → w1.heap.size ≤ b ∧ b < w4.heap.size) : Boxed w1 (w4.alloc (.cells #[.slice m.a1 M.n1 m.c1, .slice m.a2 M.n2 m.c2, .slice m.a3 M.n3 m.c3] 26)) w4.heap.size m M :=
  ⟨hb.alloc _, hb.size, box3 w4 _ _ _ 26, (own.blw ((Blw.refl _).alloc _)).mono (fun b h => by have := hX b h; exact ⟨this.1, by rw [World.size_alloc]; omega, by omega⟩)⟩
theorem Boxed.early {w1 w4 : World} {z : Nat} {X : Nat → Prop} {m : MV} {M : MD} {f : Nat → Value} (hb : Blw w1 w4) (r : Row w4 z 3 f) (hz : w1.heap.size ≤ z) (own : MemOwn X w4 m M) (hX : ∀ b, X b → w1.heap.size ≤ b ∧ b < w4.heap.size ∧ b ≠ z) : Boxed w1 (((w4.setCell ⟨z, 0, none⟩ (.slice m.a1 M.n1 m.c1)).setCell ⟨z, 1, none⟩ (.slice m.a2 M.n2 m.c2)).setCell ⟨z, 2, none⟩ (.slice m.a3 M.n3 m.c3)) z m M :=
  ⟨Mod.blw hb (mod_set3 w4 z _ _ _) (fun i hi => by omega), hz, box_put r _ _ _, (own.mod (mod_set3 w4 z _ _ _) (fun b h => (hX b h).2.2)).mono (fun b h => by have := hX b h; have s := (mod_set3 w4 z (.slice m.a1 M.n1 m.c1) (.slice m.a2 M.n2 m.c2) (.slice m.a3 M.n3 m.c3)).size; exact ⟨this.1, by omega, this.2.2⟩)⟩
end Go.Proofs.Ytglllnklcnlcjaa
