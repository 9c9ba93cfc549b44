/- A table of the model's own that is changed. -/
import Derived.Test.YtjplodenflkghaaImplM
import Derived.Test.YtjplodenflkghaaOwnS
import Derived.Test.YtjplodenflkghaaWalk
namespace Go.Proofs.Ytjplodenflkghaa
open Go.RowKit
set_option linter.unusedSimpArgs false
set_option linter.unusedVariables false
theorem psin_leaf {X : Nat → Prop} {W : World} {bl kn : Nat} {A : Nat → Option Addr} {C : Nat → Nat} {p m : Nat → Nat → Int} {Z : Nat → Nat → Prop} (h : PSIn X W bl A C ⟨kn, fun _ => 4, p, m⟩ Z) {q j : Nat} (hq : q < kn) (hj : j < 4) :
    ∃ gb, A q = some ⟨gb, 0, none⟩ ∧ X gb ∧ gb ≠ bl ∧ Row W gb 8 (uc (p q) (m q)) ∧ (∀ x y : Int, PSIn X ((W.setCell ⟨gb, j * 2, none⟩ (.int .i64 x)).setCell ⟨gb, j * 2 + 1, none⟩ (.int .i64 y)) bl A C ⟨kn, fun _ => 4, upd2 p q j x, upd2 m q j y⟩ Z) ∧ (∀ y : Int, PSIn X (W.setCell ⟨gb, j * 2 + 1, none⟩ (.int .i64 y)) bl A C ⟨kn, fun _ => 4, p, upd2 m q j y⟩ Z) := by
  obtain ⟨gb, hz, ea, hr⟩ := (h.own q hq).2 (by show 0 < 4; omega)
  have hr8 : Row W gb 8 (uc (p q) (m q)) := hr
  have hs := h.sub q hq gb hz
  have hoth : ∀ i, i < kn → i ≠ q → ¬ Z i gb := fun i hi hne hzi => h.dis i q hi hq hne gb hzi hz
  refine ⟨gb, ea, hs.1, hs.2, hr8, fun x y => ?_, fun y => ?_⟩
  · have hm : Mod (fun k => k = gb) W ((W.setCell ⟨gb, j * 2, none⟩ (.int .i64 x)).setCell ⟨gb, j * 2 + 1, none⟩ (.int .i64 y)) := (Mod.setCell (X := fun k => k = gb) _ (p := ⟨gb, j * 2, none⟩) rfl _).trans (Mod.setCell (X := fun k => k = gb) _ (p := ⟨gb, j * 2 + 1, none⟩) rfl _)
    refine ⟨h.row.mod hm (fun e => hs.2 e.symm), fun i hi => ?_, h.sub, h.dis, h.hb⟩
    by_cases e : i = q
    · subst e
      refine ⟨by show 4 ≤ _; omega, fun _ => ⟨gb, hz, ea, ?_⟩⟩
      refine (((hr8.set (j * 2) (.int .i64 x)).set (j * 2 + 1) (.int .i64 y)).congr (fun k hk => ?_) : Row _ gb (4 * 2) _)
      show (if k = j * 2 + 1 then _ else if k = j * 2 then _ else _) = uc (upd2 p i j x i) (upd2 m i j y i) k
      unfold uc upd2
      by_cases e1 : k = j * 2 + 1
      · have h1 : ¬ k % 2 = 0 := by omega
        have h2 : k / 2 = j := by omega
        simp [e1, h1, h2]
        omega
      · by_cases e2 : k = j * 2
        · simp [e2]
        · simp only [e1, e2, if_false]
          have h2 : ¬ k / 2 = j := by omega
          simp [h2]
    · refine (((h.own i hi).mod hm (fun b hb e2 => hoth i hi e (e2 ▸ hb))).congr (fun k hk => ?_))
      simp [upd2, e]
  · have hm : Mod (fun k => k = gb) W (W.setCell ⟨gb, j * 2 + 1, none⟩ (.int .i64 y)) := Mod.setCell (X := fun k => k = gb) _ (p := ⟨gb, j * 2 + 1, none⟩) rfl _
    refine ⟨h.row.mod hm (fun e => hs.2 e.symm), fun i hi => ?_, h.sub, h.dis, h.hb⟩
    by_cases e : i = q
    · subst e
      refine ⟨by show 4 ≤ _; omega, fun _ => ⟨gb, hz, ea, ?_⟩⟩
      refine ((hr8.set (j * 2 + 1) (.int .i64 y)).congr (fun k hk => ?_) : Row _ gb (4 * 2) _)
      show (if k = j * 2 + 1 then _ else _) = uc (p i) (upd2 m i j y i) k
      unfold uc upd2
      by_cases e1 : k = j * 2 + 1
      · have h1 : ¬ k % 2 = 0 := by omega
        have h2 : k / 2 = j := by omega
        simp [e1, h1, h2]
        omega
      · by_cases h3 : k % 2 = 0
        · simp [e1, h3]
        · have h2 : ¬ k / 2 = j := by omega
          simp [e1, h2, h3]
    · refine (((h.own i hi).mod hm (fun b hb e2 => hoth i hi e (e2 ▸ hb))).congr (fun k hk => ?_))
      simp [upd2, e]
/-- A table of one's own in a box at zb. -/
structure OT (lo zb : Nat) (W : World) (bt bl c1 c2 : Nat) (c : Nat → Int) (kn : Nat) (p m : Nat → Nat → Int) (A : Nat → Option Addr) (C : Nat → Nat) (Z : Nat → Nat → Prop) (X : Nat → Prop) : Prop where
  box : Row W zb 2 (fun i => if i = 0 then .slice (some ⟨bt, 0, none⟩) 4 c1 else .slice (some ⟨bl, 0, none⟩) kn c2)
  top : Row W bt 4 (fun i => .int .i64 (c i))
  ls : PSIn X W bl A C ⟨kn, fun _ => 4, p, m⟩ Z
  nx : ∀ x, X x → lo ≤ x ∧ x < W.heap.size ∧ x ≠ zb ∧ x ≠ bt
  nb : bt ≠ zb ∧ lo ≤ bt ∧ lo ≤ zb
theorem OT.mod {Q : Nat → Prop} {lo zb : Nat} {W W' : World} {bt bl c1 c2 : Nat} {c : Nat → Int} {kn : Nat} {p m : Nat → Nat → Int} {A : Nat → Option Addr} {C : Nat → Nat} {Z : Nat → Nat → Prop} {X : Nat → Prop} (h : OT lo zb W bt bl c1 c2 c kn p m A C Z X) (hm : Mod Q W W') (hq : ∀ x, lo ≤ x → ¬ Q x) : OT lo zb W' bt bl c1 c2 c kn p m A C Z X :=
  ⟨h.box.mod hm (hq _ h.nb.2.2), h.top.mod hm (hq _ h.nb.2.1), h.ls.mod hm (fun x hx => hq _ (h.nx x hx).1), fun x hx => by have := h.nx x hx; have := hm.size; omega, h.nb⟩
theorem OT.go {lo zb : Nat} {W W' : World} {bt bl c1 c2 : Nat} {c : Nat → Int} {kn : Nat} {p m : Nat → Nat → Int} {A : Nat → Option Addr} {C : Nat → Nat} {Z : Nat → Nat → Prop} {X : Nat → Prop} (h : OT lo zb W bt bl c1 c2 c kn p m A C Z X) (hb : Blw W W') : OT lo zb W' bt bl c1 c2 c kn p m A C Z X := h.mod (hb.mod (fun _ => False)) (fun _ _ => id)
theorem OT.make {lo : Nat} {W : World} {b : BV} {c : Nat → Int} {kn : Nat} {p m : Nat → Nat → Int} (hk : 0 < kn) (h : BookOwn (fun x => lo ≤ x ∧ x < W.heap.size) W b ⟨4, c, ⟨kn, fun _ => 4, p, m⟩⟩) (hlo : lo ≤ W.heap.size) :
    ∃ bt bl c1 c2 A C Z X, b = ⟨some ⟨bt, 0, none⟩, some ⟨bl, 0, none⟩, c1, c2⟩ ∧ OT lo W.heap.size (W.alloc (.cells #[.slice (some ⟨bt, 0, none⟩) 4 c1, .slice (some ⟨bl, 0, none⟩) kn c2] 29)) bt bl c1 c2 c kn p m A C Z X := by
  obtain ⟨a1, a2, c1, c2⟩ := b
  obtain ⟨X1, X2, d1, d2, hc, hl⟩ := h.ex
  obtain ⟨bt, hbt, e1, hr⟩ := hc.2 (by show 0 < 4; omega)
  obtain ⟨bl, A, C, Z, e2, hp⟩ := hl.2 hk
  dsimp only at e1 e2
  subst e1 e2
  have hA : Blw W (W.alloc (.cells #[.slice (some ⟨bt, 0, none⟩) 4 c1, .slice (some ⟨bl, 0, none⟩) kn c2] 29)) := (Blw.refl _).alloc _
  refine ⟨bt, bl, c1, c2, A, C, Z, X2, rfl, box2 W _ _ 29, hr.blw hA, hp.mod (hA.mod (fun _ => False)) (fun _ _ => id), fun x hx => ?_, ?_⟩
  · have := d2 x hx
    rw [World.size_alloc]
    refine ⟨by omega, by omega, by omega, fun e => (d1 bt hbt).2 (e ▸ hx)⟩
  · have := (d1 bt hbt).1
    omega
theorem OT.own {lo zb : Nat} {W : World} {bt bl c1 c2 : Nat} {c : Nat → Int} {kn : Nat} {p m : Nat → Nat → Int} {A : Nat → Option Addr} {C : Nat → Nat} {Z : Nat → Nat → Prop} {X : Nat → Prop} (h : OT lo zb W bt bl c1 c2 c kn p m A C Z X) (hk : kn ≤ 4) : BookOwn (fun x => lo ≤ x ∧ x < W.heap.size) W ⟨some ⟨bt, 0, none⟩, some ⟨bl, 0, none⟩, c1, c2⟩ ⟨4, c, ⟨kn, fun _ => 4, p, m⟩⟩ :=
  ⟨fun x => x = bt, X, fun x hx => ⟨by have := h.nb; have := h.top.lt; omega, fun hX => by have := (h.nx x hX).2.2.2; omega⟩, fun x hx => by have := h.nx x hx; omega, ⟨by show 4 ≤ _; omega, fun _ => ⟨bt, rfl, rfl, h.top⟩⟩, ⟨by show kn ≤ _; omega, fun _ => ⟨bl, A, C, Z, rfl, h.ls⟩⟩⟩
theorem OT.setTop {lo zb : Nat} {W : World} {bt bl c1 c2 : Nat} {c : Nat → Int} {kn : Nat} {p m : Nat → Nat → Int} {A : Nat → Option Addr} {C : Nat → Nat} {Z : Nat → Nat → Prop} {X : Nat → Prop} (h : OT lo zb W bt bl c1 c2 c kn p m A C Z X) (t : Nat) (v : Int) : OT lo zb (W.setCell ⟨bt, t, none⟩ (.int .i64 v)) bt bl c1 c2 (upd c t v) kn p m A C Z X := by
  have hm : Mod (fun k => k = bt) W (W.setCell ⟨bt, t, none⟩ (.int .i64 v)) := Mod.setCell (X := fun k => k = bt) _ (p := ⟨bt, t, none⟩) rfl _
  refine ⟨h.box.mod hm (fun e => h.nb.1 e.symm), (h.top.set t _).congr (fun i hi => ?_), h.ls.mod hm (fun x hx e => (h.nx x hx).2.2.2 e), fun x hx => by have := h.nx x hx; have := hm.size; omega, h.nb⟩
  unfold upd
  split <;> rfl
theorem OT.leaf {lo zb : Nat} {W : World} {bt bl c1 c2 : Nat} {c : Nat → Int} {kn : Nat} {p m : Nat → Nat → Int} {A : Nat → Option Addr} {C : Nat → Nat} {Z : Nat → Nat → Prop} {X : Nat → Prop} (h : OT lo zb W bt bl c1 c2 c kn p m A C Z X) {q j : Nat} (hq : q < kn) (hj : j < 4) :
    ∃ gb, A q = some ⟨gb, 0, none⟩ ∧ gb ≠ zb ∧ gb ≠ bt ∧ gb ≠ bl ∧ lo ≤ gb ∧ Row W gb 8 (uc (p q) (m q)) ∧ (∀ x y : Int, OT lo zb ((W.setCell ⟨gb, j * 2, none⟩ (.int .i64 x)).setCell ⟨gb, j * 2 + 1, none⟩ (.int .i64 y)) bt bl c1 c2 c kn (upd2 p q j x) (upd2 m q j y) A C Z X) ∧ (∀ y : Int, OT lo zb (W.setCell ⟨gb, j * 2 + 1, none⟩ (.int .i64 y)) bt bl c1 c2 c kn p (upd2 m q j y) A C Z X) := by
  obtain ⟨gb, ea, hX, hne, hr, h1, h2⟩ := psin_leaf h.ls hq hj
  have hn := h.nx gb hX
  refine ⟨gb, ea, hn.2.2.1, hn.2.2.2, hne, hn.1, hr, fun x y => ?_, fun y => ?_⟩
  · have hm : Mod (fun k => k = gb) W ((W.setCell ⟨gb, j * 2, none⟩ (.int .i64 x)).setCell ⟨gb, j * 2 + 1, none⟩ (.int .i64 y)) := (Mod.setCell (X := fun k => k = gb) _ (p := ⟨gb, j * 2, none⟩) rfl _).trans (Mod.setCell (X := fun k => k = gb) _ (p := ⟨gb, j * 2 + 1, none⟩) rfl _)
    exact ⟨h.box.mod hm (fun e => hn.2.2.1 e.symm), h.top.mod hm (fun e => hn.2.2.2 e.symm), h1 x y, fun x hx => by have := h.nx x hx; have := hm.size; omega, h.nb⟩
  · have hm : Mod (fun k => k = gb) W (W.setCell ⟨gb, j * 2 + 1, none⟩ (.int .i64 y)) := Mod.setCell (X := fun k => k = gb) _ (p := ⟨gb, j * 2 + 1, none⟩) rfl _
    exact ⟨h.box.mod hm (fun e => hn.2.2.1 e.symm), h.top.mod hm (fun e => hn.2.2.2 e.symm), h2 y, fun x hx => by have := h.nx x hx; have := hm.size; omega, h.nb⟩
theorem OT.topAt {lo zb : Nat} {W : World} {bt bl c1 c2 : Nat} {c : Nat → Int} {kn : Nat} {p m : Nat → Nat → Int} {A : Nat → Option Addr} {C : Nat → Nat} {Z : Nat → Nat → Prop} {X : Nat → Prop} (h : OT lo zb W bt bl c1 c2 c kn p m A C Z X) : IntsAt (fun x => x = bt) W (some ⟨bt, 0, none⟩) 4 c :=
  ⟨by omega, fun i hi => ⟨bt, 0, rfl, rfl, by rw [Nat.zero_add]; exact h.top.cell hi⟩⟩
end Go.Proofs.Ytjplodenflkghaa
