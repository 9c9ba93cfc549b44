/- What stands in a law: facts that no other block's change turns. -/
import Derived.Test.YtglllnklcnlcjaaMems
import Derived.Test.YtglllnklcnlcjaaLawSt
namespace Go.Proofs.Ytglllnklcnlcjaa
open Go.RowKit
set_option linter.unusedSimpArgs false
set_option linter.unusedVariables false
/-- P holds of W, and of every world that differs from it in blocks outside X alone. -/
def St (X : Nat → Prop) (P : World → Prop) (W : World) : Prop := (∀ b, X b → b < W.heap.size) ∧ ∀ Z w', Mod Z W w' → (∀ b, X b → ¬ Z b) → P w'
theorem St.out {X : Nat → Prop} {P : World → Prop} {W : World} (h : St X P W) : P W := h.2 (fun _ => False) W (Mod.refl _ _) (fun _ _ => id)
theorem St.mod {X Z : Nat → Prop} {P : World → Prop} {W W' : World} (h : St X P W) (hm : Mod Z W W') (hx : ∀ b, X b → ¬ Z b) : St X P W' :=
  ⟨fun b hb => Nat.lt_of_lt_of_le (h.1 b hb) hm.size, fun Z' w' hm' hx' => h.2 (fun b => Z b ∨ Z' b) w' ((hm.mono (fun _ => Or.inl)).trans (hm'.mono (fun _ => Or.inr))) (fun b hb hz => hz.elim (hx b hb) (hx' b hb))⟩
theorem St.blw {X : Nat → Prop} {P : World → Prop} {W W' : World} (h : St X P W) (hb : Blw W W') : St X P W' := h.mod (hb.mod (fun _ => False)) (fun _ _ => id)
/-- A memory in its own box at z, all in blocks of X. -/
structure MB (X : Nat → Prop) (z : Nat) (m : MV) (M M' : MD) (w : World) : Prop where
  own : MemOwn (fun x => X x ∧ x ≠ z) w m M'
  box : Box w z m M
theorem MB.st {X : Nat → Prop} {z : Nat} {m : MV} {M M' : MD} {w : World} (h : MB X z m M M' w) (hz : X z) (hX : ∀ b, X b → b < w.heap.size) : St X (MB X z m M M') w :=
  ⟨hX, fun Z w' hm hx => ⟨h.own.mod hm (fun b hb => hx b hb.1), h.box.mod hm (hx z hz)⟩⟩
/-- The argument of a law on a memory: it, and its box at z. -/
structure ArgM (n z : Nat) (m : MV) (M : MD) (w : World) : Prop where
  at_ : MemAt (fun x => x < n) w m M
  box : Box w z m M
theorem ArgM.st {n z a : Nat} {m : MV} {M : MD} {w : World} (h : ArgM n z m M w) (hn : n ≤ a) (hz : z < a) (ha : a ≤ w.heap.size) : St (fun x => x < a) (ArgM n z m M) w :=
  ⟨fun x hx => by omega, fun Z w' hm hx => ⟨h.at_.mod hm (fun b hb => hx b (by omega)), h.box.mod hm (hx z hz)⟩⟩
theorem IntsAt.st {Y : Nat → Prop} {W : World} {ao : Option Addr} {n : Nat} {f : Nat → Int} (h : IntsAt Y W ao n f) (hY : ∀ b, Y b → b < W.heap.size) : St Y (fun W => IntsAt Y W ao n f) W := ⟨hY, fun _ _ hm hx => h.mod hm hx⟩
theorem IntsOwn.st {Y : Nat → Prop} {W : World} {ao : Option Addr} {n : Nat} {f : Nat → Int} (h : IntsOwn Y W ao n f) (hY : ∀ b, Y b → b < W.heap.size) : St Y (fun W => IntsOwn Y W ao n f) W := ⟨hY, fun _ _ hm hx => h.mod hm hx⟩
theorem UndosAt.st {Y : Nat → Prop} {W : World} {ao : Option Addr} {n : Nat} {f g : Nat → Int} (h : UndosAt Y W ao n f g) (hY : ∀ b, Y b → b < W.heap.size) : St Y (fun W => UndosAt Y W ao n f g) W := ⟨hY, fun _ _ hm hx => h.mod hm hx⟩
theorem UndosOwn.st {Y : Nat → Prop} {W : World} {ao : Option Addr} {n : Nat} {f g : Nat → Int} (h : UndosOwn Y W ao n f g) (hY : ∀ b, Y b → b < W.heap.size) : St Y (fun W => UndosOwn Y W ao n f g) W := ⟨hY, fun _ _ hm hx => h.mod hm hx⟩
theorem MemsOwn.st {Y : Nat → Prop} {W : World} {ao : Option Addr} {n : Nat} {M : Nat → MD} (h : MemsOwn Y W ao n M) (hY : ∀ b, Y b → b < W.heap.size) : St Y (fun W => MemsOwn Y W ao n M) W := ⟨hY, fun _ _ hm hx => h.mod hm hx⟩
theorem MemsOwn.congr {X : Nat → Prop} {w : World} {ao : Option Addr} {n : Nat} {M M' : Nat → MD} (h : MemsOwn X w ao n M) (e : ∀ i, i < n → M i = M' i) : MemsOwn X w ao n M' :=
  ⟨h.1, fun hn => let ⟨b, mv, Q, xb, ea, r, hi⟩ := h.2 hn; ⟨b, mv, Q, xb, ea, r.congr (mcell_congr (fun i hi => ⟨rfl, e i hi⟩)), ⟨fun i hi' => by rw [← e i hi']; exact hi.own i hi', hi.sub, hi.dis⟩⟩⟩
/-- What answers a list of memories and a bool. -/
def GivesS (out : Nat → (Nat → MD) → Bool → Prop) (w : World) : Ending → World → Prop := fun e w' =>
  ∃ (ao : Option Addr) (n c : Nat) (R : Nat → MD) (r : Bool), e = .returned (.tuple #[.slice ao n c, .bool r]) ∧ out n R r ∧ MemsOwn (fun x => w.heap.size ≤ x ∧ x < w'.heap.size) w' ao n R ∧ Blw w w'
theorem row_ints {w : World} {b n : Nat} {f : Nat → Int} (r : Row w b n (fun t => .int .i64 (f t))) (hn : n ≤ 9223372036854775807) {X : Nat → Prop} (hX : X b) : IntsOwn X w (some ⟨b, 0, none⟩) n f := ⟨hn, fun _ => ⟨b, hX, rfl, r⟩⟩
theorem row_pairs {w : World} {b n : Nat} {f g : Nat → Int} (r : Row w b (n * 2) (uc f g)) (hn : n ≤ 9223372036854775807) {X : Nat → Prop} (hX : X b) : UndosOwn X w (some ⟨b, 0, none⟩) n f g := ⟨hn, fun _ => ⟨b, hX, rfl, r⟩⟩
theorem drewN_blw (w : World) (n : Nat) : Blw w (w.drewN n) := (Blw.refl w).drewN n
theorem eqIntS_blw (a1 a2 : Option Addr) (c1 c2 : Nat) (n0 : Nat) (f : Nat → Int) {Y Z : Nat → Prop} (w : World) (h1 : IntsAt Y w a1 n0 f) (h2 : IntsAt Z w a2 n0 f) :
    Calls Try.prog 47 #[.slice a1 n0 c1, .slice a2 n0 c2] w fun e w' => e = .returned (.bool true) ∧ Blw w w' :=
  (eqIntS_same a1 a2 c1 c2 n0 f w h1 h2).mono fun e w' ⟨he, n, hw⟩ => ⟨he, by subst hw; exact drewN_blw w n⟩
end Go.Proofs.Ytglllnklcnlcjaa
