/- Lists of pairs: what they read as, what is owned. -/
import Derived.Test.YtkmkidahaagbpaaInts
namespace Go.Proofs.Ytkmkidahaagbpaa
open Go.RowKit
set_option linter.unusedSimpArgs false
set_option linter.unusedVariables false
/-- The slice at 'ao' reads as the n pairs f, g, all in blocks of Y. -/
def UndosAt (Y : Nat → Prop) (w : World) (ao : Option Addr) (n : Nat) (f g : Nat → Int) : Prop :=
  n ≤ 9223372036854775807 ∧ ∀ i, i < n → ∃ b o, ao = some ⟨b, o, none⟩ ∧ Y b ∧ w.cell? ⟨b, o + i * 2, none⟩ = some (.int .i64 (f i)) ∧ w.cell? ⟨b, o + i * 2 + 1, none⟩ = some (.int .i64 (g i))
def uc (f g : Nat → Int) : Nat → Value := fun j => if j % 2 = 0 then .int .i64 (f (j / 2)) else .int .i64 (g (j / 2))
theorem uc_at (f g : Nat → Int) (i : Nat) : uc f g (i * 2) = .int .i64 (f i) ∧ uc f g (i * 2 + 1) = .int .i64 (g i) := by
  have a0 : i * 2 % 2 = 0 := by omega
  have a1 : (i * 2 + 1) % 2 = 1 := by omega
  have b0 : i * 2 / 2 = i := by omega
  have b1 : (i * 2 + 1) / 2 = i := by omega
  simp [uc, a0, a1, b0, b1]
def UndosOwn (X : Nat → Prop) (w : World) (ao : Option Addr) (n : Nat) (f g : Nat → Int) : Prop :=
  n ≤ 9223372036854775807 ∧ (0 < n → ∃ b, X b ∧ ao = some ⟨b, 0, none⟩ ∧ Row w b (n * 2) (uc f g))
theorem undo_get {w : World} {b n : Nat} {f g : Nat → Int} (r : Row w b (n * 2) (uc f g)) {i : Nat} (hi : i < n) : w.cell? ⟨b, i * 2, none⟩ = some (.int .i64 (f i)) ∧ w.cell? ⟨b, i * 2 + 1, none⟩ = some (.int .i64 (g i)) := by
  obtain ⟨h0, h1⟩ := uc_at f g i
  exact ⟨by rw [r.cell (by omega), h0], by rw [r.cell (by omega), h1]⟩
theorem UndosOwn.at {X : Nat → Prop} {w : World} {ao : Option Addr} {n : Nat} {f g : Nat → Int} (h : UndosOwn X w ao n f g) : UndosAt X w ao n f g := by
  refine ⟨h.1, fun i hi => ?_⟩
  obtain ⟨b, hx, e, hr⟩ := h.2 (by omega)
  obtain ⟨h0, h1⟩ := undo_get hr hi
  exact ⟨b, 0, e, hx, by rw [Nat.zero_add]; exact h0, by rw [Nat.zero_add]; exact h1⟩
theorem UndosAt.blw {Y : Nat → Prop} {w w' : World} {ao : Option Addr} {n : Nat} {f g : Nat → Int} (h : UndosAt Y w ao n f g) (hb : Blw w w') : UndosAt Y w' ao n f g :=
  ⟨h.1, fun i hi => let ⟨b, o, e, hY, h0, h1⟩ := h.2 i hi; ⟨b, o, e, hY, hb.cell h0, hb.cell h1⟩⟩
theorem UndosAt.mod {X Y : Nat → Prop} {w w' : World} {ao : Option Addr} {n : Nat} {f g : Nat → Int} (h : UndosAt Y w ao n f g) (hb : Mod X w w') (hxy : ∀ k, Y k → ¬ X k) : UndosAt Y w' ao n f g :=
  ⟨h.1, fun i hi => let ⟨b, o, e, hY, h0, h1⟩ := h.2 i hi; ⟨b, o, e, hY, hb.cell h0 (hxy _ hY), hb.cell h1 (hxy _ hY)⟩⟩
theorem UndosAt.mono {X Y : Nat → Prop} {w : World} {ao : Option Addr} {n : Nat} {f g : Nat → Int} (h : UndosAt X w ao n f g) (hxy : ∀ b, X b → Y b) : UndosAt Y w ao n f g :=
  ⟨h.1, fun i hi => let ⟨b, o, e, hY, h0⟩ := h.2 i hi; ⟨b, o, e, hxy _ hY, h0⟩⟩
theorem UndosAt.congr {Y : Nat → Prop} {w : World} {ao : Option Addr} {n : Nat} {f g f' g' : Nat → Int} (h : UndosAt Y w ao n f g) (e : ∀ i, i < n → f i = f' i ∧ g i = g' i) : UndosAt Y w ao n f' g' :=
  ⟨h.1, fun i hi => let ⟨b, o, ea, hY, h0, h1⟩ := h.2 i hi; ⟨b, o, ea, hY, by rw [← (e i hi).1]; exact h0, by rw [← (e i hi).2]; exact h1⟩⟩
theorem UndosOwn.mod {X Z : Nat → Prop} {w w' : World} {ao : Option Addr} {n : Nat} {f g : Nat → Int} (h : UndosOwn X w ao n f g) (hb : Mod Z w w') (hxz : ∀ b, X b → ¬ Z b) : UndosOwn X w' ao n f g :=
  ⟨h.1, fun hn => let ⟨b, hx, e, hr⟩ := h.2 hn; ⟨b, hx, e, hr.mod hb (hxz _ hx)⟩⟩
theorem UndosOwn.blw {X : Nat → Prop} {w w' : World} {ao : Option Addr} {n : Nat} {f g : Nat → Int} (h : UndosOwn X w ao n f g) (hb : Blw w w') : UndosOwn X w' ao n f g := h.mod (hb.mod (fun _ => False)) (fun _ _ => id)
theorem UndosOwn.mono {X Y : Nat → Prop} {w : World} {ao : Option Addr} {n : Nat} {f g : Nat → Int} (h : UndosOwn X w ao n f g) (hxy : ∀ b, X b → Y b) : UndosOwn Y w ao n f g :=
  ⟨h.1, fun hn => let ⟨b, hx, e, hr⟩ := h.2 hn; ⟨b, hxy _ hx, e, hr⟩⟩
theorem UndosOwn.congr {X : Nat → Prop} {w : World} {ao : Option Addr} {n : Nat} {f g f' g' : Nat → Int} (h : UndosOwn X w ao n f g) (e : ∀ i, i < n → f i = f' i ∧ g i = g' i) : UndosOwn X w ao n f' g' :=
  ⟨h.1, fun hn => let ⟨b, hx, ea, hr⟩ := h.2 hn; ⟨b, hx, ea, hr.congr fun i hi => by
    have := e (i / 2) (by omega)
    simp only [uc, this.1, this.2]⟩⟩
theorem UndosOwn.nil (X : Nat → Prop) (w : World) (ao : Option Addr) (f g : Nat → Int) : UndosOwn X w ao 0 f g := ⟨by omega, fun h => absurd h (by omega)⟩
theorem IntsOwn.mono {X Y : Nat → Prop} {w : World} {ao : Option Addr} {n : Nat} {f : Nat → Int} (h : IntsOwn X w ao n f) (hxy : ∀ b, X b → Y b) : IntsOwn Y w ao n f :=
  ⟨h.1, fun hn => let ⟨b, hx, e, hr⟩ := h.2 hn; ⟨b, hxy _ hx, e, hr⟩⟩
theorem IntsOwn.mod {X Z : Nat → Prop} {w w' : World} {ao : Option Addr} {n : Nat} {f : Nat → Int} (h : IntsOwn X w ao n f) (hb : Mod Z w w') (hxz : ∀ b, X b → ¬ Z b) : IntsOwn X w' ao n f :=
  ⟨h.1, fun hn => let ⟨b, hx, e, hr⟩ := h.2 hn; ⟨b, hx, e, hr.mod hb (hxz _ hx)⟩⟩
theorem IntsOwn.congr {X : Nat → Prop} {w : World} {ao : Option Addr} {n : Nat} {f g : Nat → Int} (h : IntsOwn X w ao n f) (e : ∀ i, i < n → f i = g i) : IntsOwn X w ao n g :=
  ⟨h.1, fun hn => let ⟨b, hx, ea, hr⟩ := h.2 hn; ⟨b, hx, ea, hr.congr fun i hi => by rw [e i hi]⟩⟩
theorem IntsOwn.nil (X : Nat → Prop) (w : World) (ao : Option Addr) (f : Nat → Int) : IntsOwn X w ao 0 f := ⟨by omega, fun h => absurd h (by omega)⟩
theorem box2 (w : World) (a b : Value) (t : TypeId) : Row (w.alloc (.cells #[a, b] t)) w.heap.size 2 (fun i => if i = 0 then a else b) :=
  ⟨_, t, heap_alloc_new _ _, by simp, fun i hi => by
    match i, hi with
    | 0, _ => rfl
    | 1, _ => rfl⟩
theorem get2 {w : World} {B : Nat} {a b : Value} (r : Row w B 2 (fun i => if i = 0 then a else b)) : w.cell? ⟨B, 0, none⟩ = some a ∧ w.cell? ⟨B, 1, none⟩ = some b :=
  ⟨r.cell (i := 0) (by omega), r.cell (i := 1) (by omega)⟩
end Go.Proofs.Ytkmkidahaagbpaa
