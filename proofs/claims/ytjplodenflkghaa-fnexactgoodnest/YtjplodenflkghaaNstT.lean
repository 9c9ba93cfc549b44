/- Nests in a law: copied, boxed. -/
import Derived.Test.YtjplodenflkghaaNstL
namespace Go.Proofs.Ytjplodenflkghaa
open Go.RowKit
set_option linter.unusedSimpArgs false
set_option linter.unusedVariables false
theorem set4_01 {w : World} {B : Nat} {a b c d : Value} (r : Row w B 4 (fun i => if i = 0 then a else if i = 1 then b else if i = 2 then c else d)) (u v : Value) : Row ((w.setCell ⟨B, 0, none⟩ u).setCell ⟨B, 1, none⟩ v) B 4 (fun i => if i = 0 then u else if i = 1 then v else if i = 2 then c else d) :=
  ((r.set 0 u).set 1 v).congr fun i hi => by
    match i, hi with
    | 0, _ => rfl
    | 1, _ => rfl
    | 2, _ => rfl
    | 3, _ => rfl
theorem set4_23 {w : World} {B : Nat} {a b c d : Value} (r : Row w B 4 (fun i => if i = 0 then a else if i = 1 then b else if i = 2 then c else d)) (u v : Value) : Row ((w.setCell ⟨B, 2, none⟩ u).setCell ⟨B, 3, none⟩ v) B 4 (fun i => if i = 0 then a else if i = 1 then b else if i = 2 then u else v) :=
  ((r.set 2 u).set 3 v).congr fun i hi => by
    match i, hi with
    | 0, _ => rfl
    | 1, _ => rfl
    | 2, _ => rfl
    | 3, _ => rfl
theorem setn2_mod {X : Nat → Prop} (w1 : World) {B : Nat} (hB : X B) (i j : Nat) (v0 v1 : Value) : Mod X w1 ((w1.setCell ⟨B, i, none⟩ v0).setCell ⟨B, j, none⟩ v1) :=
  (Mod.setCell _ (p := ⟨B, i, none⟩) hB _).trans (Mod.setCell _ (p := ⟨B, j, none⟩) hB _)
set_option maxHeartbeats 1600000 in
theorem toNest_any (v : NV) (D : ND) (Y : Nat → Prop) (w : World) (hS : D.small) (h : NAt Y w v D) :
    Calls Try.prog 71 #[v.val D] w fun e w' => ∃ v' : NV, e = .returned (v'.val D) ∧ NOwn (fun x => w.heap.size ≤ x ∧ x < w'.heap.size) w' v' D ∧ Blw w w' := by
  have hb0 : Blw w (((w.alloc (.cells #[.slice v.g.a1 D.G.n v.g.c1, .slice v.g.a2 D.G.D.n v.g.c2, .slice v.h.a1 D.H.n v.h.c1, .slice v.h.a2 D.H.D.n v.h.c2] 91)).alloc (.cells #[.slice none 0 0, .slice none 0 0, .slice none 0 0, .slice none 0 0] 60)).alloc (.cells #[.slice none 0 0, .slice none 0 0, .slice none 0 0, .slice none 0 0] 60)) := (((Blw.refl _).alloc _).alloc _).alloc _
  have b1 : Blw (w.alloc (.cells #[.slice v.g.a1 D.G.n v.g.c1, .slice v.g.a2 D.G.D.n v.g.c2, .slice v.h.a1 D.H.n v.h.c1, .slice v.h.a2 D.H.D.n v.h.c2] 91)) (((w.alloc (.cells #[.slice v.g.a1 D.G.n v.g.c1, .slice v.g.a2 D.G.D.n v.g.c2, .slice v.h.a1 D.H.n v.h.c1, .slice v.h.a2 D.H.D.n v.h.c2] 91)).alloc (.cells #[.slice none 0 0, .slice none 0 0, .slice none 0 0, .slice none 0 0] 60)).alloc (.cells #[.slice none 0 0, .slice none 0 0, .slice none 0 0, .slice none 0 0] 60)) := ((Blw.refl _).alloc _).alloc _
  have b2 : Blw ((w.alloc (.cells #[.slice v.g.a1 D.G.n v.g.c1, .slice v.g.a2 D.G.D.n v.g.c2, .slice v.h.a1 D.H.n v.h.c1, .slice v.h.a2 D.H.D.n v.h.c2] 91)).alloc (.cells #[.slice none 0 0, .slice none 0 0, .slice none 0 0, .slice none 0 0] 60)) (((w.alloc (.cells #[.slice v.g.a1 D.G.n v.g.c1, .slice v.g.a2 D.G.D.n v.g.c2, .slice v.h.a1 D.H.n v.h.c1, .slice v.h.a2 D.H.D.n v.h.c2] 91)).alloc (.cells #[.slice none 0 0, .slice none 0 0, .slice none 0 0, .slice none 0 0] 60)).alloc (.cells #[.slice none 0 0, .slice none 0 0, .slice none 0 0, .slice none 0 0] 60)) := (Blw.refl _).alloc _
  have r0 : Row (((w.alloc (.cells #[.slice v.g.a1 D.G.n v.g.c1, .slice v.g.a2 D.G.D.n v.g.c2, .slice v.h.a1 D.H.n v.h.c1, .slice v.h.a2 D.H.D.n v.h.c2] 91)).alloc (.cells #[.slice none 0 0, .slice none 0 0, .slice none 0 0, .slice none 0 0] 60)).alloc (.cells #[.slice none 0 0, .slice none 0 0, .slice none 0 0, .slice none 0 0] 60)) w.heap.size 4 (nb v D) := (box4 w _ _ _ _ 91).blw b1
  have r1 := (box4 (w.alloc (.cells #[.slice v.g.a1 D.G.n v.g.c1, .slice v.g.a2 D.G.D.n v.g.c2, .slice v.h.a1 D.H.n v.h.c1, .slice v.h.a2 D.H.D.n v.h.c2] 91)) (.slice none 0 0) (.slice none 0 0) (.slice none 0 0) (.slice none 0 0) 60).blw b2
  have r2 := box4 ((w.alloc (.cells #[.slice v.g.a1 D.G.n v.g.c1, .slice v.g.a2 D.G.D.n v.g.c2, .slice v.h.a1 D.H.n v.h.c1, .slice v.h.a2 D.H.D.n v.h.c2] 91)).alloc (.cells #[.slice none 0 0, .slice none 0 0, .slice none 0 0, .slice none 0 0] 60)) (.slice none 0 0) (.slice none 0 0) (.slice none 0 0) (.slice none 0 0) 60
  rw [World.size_alloc] at r1
  rw [World.size_alloc, World.size_alloc] at r2
  have hz : (((w.alloc (.cells #[.slice v.g.a1 D.G.n v.g.c1, .slice v.g.a2 D.G.D.n v.g.c2, .slice v.h.a1 D.H.n v.h.c1, .slice v.h.a2 D.H.D.n v.h.c2] 91)).alloc (.cells #[.slice none 0 0, .slice none 0 0, .slice none 0 0, .slice none 0 0] 60)).alloc (.cells #[.slice none 0 0, .slice none 0 0, .slice none 0 0, .slice none 0 0] 60)).heap.size = w.heap.size + 1 + 1 + 1 := by simp
  have HN : Hid (NAt Y (((w.alloc (.cells #[.slice v.g.a1 D.G.n v.g.c1, .slice v.g.a2 D.G.D.n v.g.c2, .slice v.h.a1 D.H.n v.h.c1, .slice v.h.a2 D.H.D.n v.h.c2] 91)).alloc (.cells #[.slice none 0 0, .slice none 0 0, .slice none 0 0, .slice none 0 0] 60)).alloc (.cells #[.slice none 0 0, .slice none 0 0, .slice none 0 0, .slice none 0 0] 60)) v D) := h.blw hb0
  have HNW : Hid (NAt Y w v D) := h
  have HB : Hid (Blw w (((w.alloc (.cells #[.slice v.g.a1 D.G.n v.g.c1, .slice v.g.a2 D.G.D.n v.g.c2, .slice v.h.a1 D.H.n v.h.c1, .slice v.h.a2 D.H.D.n v.h.c2] 91)).alloc (.cells #[.slice none 0 0, .slice none 0 0, .slice none 0 0, .slice none 0 0] 60)).alloc (.cells #[.slice none 0 0, .slice none 0 0, .slice none 0 0, .slice none 0 0] 60))) := hb0
  have R0 : Hid (Row (((w.alloc (.cells #[.slice v.g.a1 D.G.n v.g.c1, .slice v.g.a2 D.G.D.n v.g.c2, .slice v.h.a1 D.H.n v.h.c1, .slice v.h.a2 D.H.D.n v.h.c2] 91)).alloc (.cells #[.slice none 0 0, .slice none 0 0, .slice none 0 0, .slice none 0 0] 60)).alloc (.cells #[.slice none 0 0, .slice none 0 0, .slice none 0 0, .slice none 0 0] 60)) w.heap.size 4 (nb v D)) := r0
  have R1 : Hid (Row (((w.alloc (.cells #[.slice v.g.a1 D.G.n v.g.c1, .slice v.g.a2 D.G.D.n v.g.c2, .slice v.h.a1 D.H.n v.h.c1, .slice v.h.a2 D.H.D.n v.h.c2] 91)).alloc (.cells #[.slice none 0 0, .slice none 0 0, .slice none 0 0, .slice none 0 0] 60)).alloc (.cells #[.slice none 0 0, .slice none 0 0, .slice none 0 0, .slice none 0 0] 60)) (w.heap.size + 1) 4 (fun i => if i = 0 then .slice none 0 0 else if i = 1 then .slice none 0 0 else if i = 2 then .slice none 0 0 else .slice none 0 0)) := r1
  have R2 : Hid (Row (((w.alloc (.cells #[.slice v.g.a1 D.G.n v.g.c1, .slice v.g.a2 D.G.D.n v.g.c2, .slice v.h.a1 D.H.n v.h.c1, .slice v.h.a2 D.H.D.n v.h.c2] 91)).alloc (.cells #[.slice none 0 0, .slice none 0 0, .slice none 0 0, .slice none 0 0] 60)).alloc (.cells #[.slice none 0 0, .slice none 0 0, .slice none 0 0, .slice none 0 0] 60)) (w.heap.size + 1 + 1) 4 (fun i => if i = 0 then .slice none 0 0 else if i = 1 then .slice none 0 0 else if i = 2 then .slice none 0 0 else .slice none 0 0)) := r2
  have HZ : Hid ((((w.alloc (.cells #[.slice v.g.a1 D.G.n v.g.c1, .slice v.g.a2 D.G.D.n v.g.c2, .slice v.h.a1 D.H.n v.h.c1, .slice v.h.a2 D.H.D.n v.h.c2] 91)).alloc (.cells #[.slice none 0 0, .slice none 0 0, .slice none 0 0, .slice none 0 0] 60)).alloc (.cells #[.slice none 0 0, .slice none 0 0, .slice none 0 0, .slice none 0 0] 60)).heap.size = w.heap.size + 1 + 1 + 1) := hz
  clear h hb0 b1 b2 r0 r1 r2 hz
  go_enter Try.func71, Try.ntmps71
  obtain ⟨p0, p1, p2, p3⟩ := get4 R0.out
  go_wp2_with fail
  clear p0 p1 p2 p3
  generalize (((w.alloc (.cells #[.slice v.g.a1 D.G.n v.g.c1, .slice v.g.a2 D.G.D.n v.g.c2, .slice v.h.a1 D.H.n v.h.c1, .slice v.h.a2 D.H.D.n v.h.c2] 91)).alloc (.cells #[.slice none 0 0, .slice none 0 0, .slice none 0 0, .slice none 0 0] 60)).alloc (.cells #[.slice none 0 0, .slice none 0 0, .slice none 0 0, .slice none 0 0] 60)) = W0 at *
  refine (toBook_any v.g D.G _ _ hS.1 HN.out.g).mono ?_
  rintro e w1 ⟨g1, rfl, own1, hb1⟩
  have hm1 := setn2_mod (X := fun x => x = w.heap.size + 1 + 1) w1 (B := w.heap.size + 1 + 1) rfl 0 1 (.slice g1.a1 D.G.n g1.c1) (.slice g1.a2 D.G.D.n g1.c2)
  obtain ⟨q0, q1, q2, q3⟩ := get4 (R2.out.blw hb1)
  have f0 := (R2.out.blw hb1).frozen 0
  have f1 := (R2.out.blw hb1).frozen 1
  have S2 := set4_01 (R2.out.blw hb1) (.slice g1.a1 D.G.n g1.c1) (.slice g1.a2 D.G.D.n g1.c2)
  have S0 := (R0.out.blw hb1).mod hm1 (by omega)
  have S1 := (R1.out.blw hb1).mod hm1 (by omega)
  obtain ⟨p0, p1, p2, p3⟩ := get4 S0
  have hz0 := HZ.out
  have hb2 : Blw w ((w1.setCell ⟨w.heap.size + 1 + 1, 0, none⟩ (.slice g1.a1 D.G.n g1.c1)).setCell ⟨w.heap.size + 1 + 1, 1, none⟩ (.slice g1.a2 D.G.D.n g1.c2)) := Mod.blw (HB.out.trans hb1) hm1 (fun i hi => by omega)
  have hs1 := hb1.size
  have hs2 := hm1.size
  have HG : Hid (BookOwn (fun x => w.heap.size + 1 + 1 + 1 ≤ x ∧ x < w1.heap.size) ((w1.setCell ⟨w.heap.size + 1 + 1, 0, none⟩ (.slice g1.a1 D.G.n g1.c1)).setCell ⟨w.heap.size + 1 + 1, 1, none⟩ (.slice g1.a2 D.G.D.n g1.c2)) g1 D.G) := (own1.mono (fun x hx => by rw [hz0] at hx; exact hx)).mod hm1 (fun x hx e => by omega)
  have HH : Hid (BookAt Y ((w1.setCell ⟨w.heap.size + 1 + 1, 0, none⟩ (.slice g1.a1 D.G.n g1.c1)).setCell ⟨w.heap.size + 1 + 1, 1, none⟩ (.slice g1.a2 D.G.D.n g1.c2)) v.h D.H) := HNW.out.h.blw hb2
  have H2 : Hid (Row ((w1.setCell ⟨w.heap.size + 1 + 1, 0, none⟩ (.slice g1.a1 D.G.n g1.c1)).setCell ⟨w.heap.size + 1 + 1, 1, none⟩ (.slice g1.a2 D.G.D.n g1.c2)) (w.heap.size + 1 + 1) 4 (fun i => if i = 0 then .slice g1.a1 D.G.n g1.c1 else if i = 1 then .slice g1.a2 D.G.D.n g1.c2 else if i = 2 then .slice none 0 0 else .slice none 0 0)) := S2
  have H1 : Hid (Row ((w1.setCell ⟨w.heap.size + 1 + 1, 0, none⟩ (.slice g1.a1 D.G.n g1.c1)).setCell ⟨w.heap.size + 1 + 1, 1, none⟩ (.slice g1.a2 D.G.D.n g1.c2)) (w.heap.size + 1) 4 (fun i => if i = 0 then .slice none 0 0 else if i = 1 then .slice none 0 0 else if i = 2 then .slice none 0 0 else .slice none 0 0)) := S1
  have HB2 : Hid (Blw w ((w1.setCell ⟨w.heap.size + 1 + 1, 0, none⟩ (.slice g1.a1 D.G.n g1.c1)).setCell ⟨w.heap.size + 1 + 1, 1, none⟩ (.slice g1.a2 D.G.D.n g1.c2))) := hb2
  have HS2 : Hid (w.heap.size + 1 + 1 + 1 ≤ w1.heap.size ∧ w1.heap.size ≤ ((w1.setCell ⟨w.heap.size + 1 + 1, 0, none⟩ (.slice g1.a1 D.G.n g1.c1)).setCell ⟨w.heap.size + 1 + 1, 1, none⟩ (.slice g1.a2 D.G.D.n g1.c2)).heap.size) := ⟨by omega, hs2⟩
  clear own1 hb1 hm1 S0 S1 S2 hz0 hb2 hs1 hs2 HN R0 R1 R2 HZ HB
  go_wp2_with fail
  clear p0 p1 p2 p3 q0 q1 q2 q3 f0 f1
  generalize ((w1.setCell ⟨w.heap.size + 1 + 1, 0, none⟩ (.slice g1.a1 D.G.n g1.c1)).setCell ⟨w.heap.size + 1 + 1, 1, none⟩ (.slice g1.a2 D.G.D.n g1.c2)) = w2 at *
  generalize w1.heap.size = z1 at *
  refine (toBook_any v.h D.H _ _ hS.2 HH.out).mono ?_
  rintro e w3 ⟨h1, rfl, own2, hb3⟩
  have hs2 := HS2.out
  have hm3 := setn2_mod (X := fun x => x = w.heap.size + 1 + 1) w3 (B := w.heap.size + 1 + 1) rfl 2 3 (.slice h1.a1 D.H.n h1.c1) (.slice h1.a2 D.H.D.n h1.c2)
  obtain ⟨q0, q1, q2, q3⟩ := get4 (H2.out.blw hb3)
  have f2 := (H2.out.blw hb3).frozen 2
  have f3 := (H2.out.blw hb3).frozen 3
  have S2 := set4_23 (H2.out.blw hb3) (.slice h1.a1 D.H.n h1.c1) (.slice h1.a2 D.H.D.n h1.c2)
  have S1 := (H1.out.blw hb3).mod hm3 (by omega)
  obtain ⟨p0, p1, p2, p3⟩ := get4 S2
  obtain ⟨t0, t1, t2, t3⟩ := get4 S1
  have e0 := S1.frozen 0; have e1 := S1.frozen 1; have e2 := S1.frozen 2; have e3 := S1.frozen 3
  have hs3 := hb3.size
  have HG3 : Hid (BookOwn (fun x => w.heap.size + 1 + 1 + 1 ≤ x ∧ x < z1) w3 g1 D.G) := HG.out.blw hb3
  have HH3 : Hid (BookOwn (fun x => z1 ≤ x ∧ x < w3.heap.size) w3 h1 D.H) := own2.mono (fun x hx => by omega)
  have HB3 : Hid (Blw w w3) := HB2.out.trans hb3
  have HS3 : Hid (w.heap.size + 1 + 1 + 1 ≤ z1 ∧ z1 ≤ w3.heap.size) := ⟨hs2.1, by omega⟩
  clear own2 hb3 hm3 S1 S2 hs2 hs3 HG HH H1 H2 HB2 HS2
  go_wp2
  refine bodyPost_ret (v := NV.val ⟨g1, h1⟩ D) (by simp [results, Try.results71, go_sem, t0, t1, t2, t3]) rfl ?_
  have m1 : Mod (fun x => x = w.heap.size + 1 ∨ x = w.heap.size + 1 + 1) w3 ((((((w3.setCell ⟨w.heap.size + 1 + 1, 2, none⟩ (.slice h1.a1 D.H.n h1.c1)).setCell ⟨w.heap.size + 1 + 1, 3, none⟩ (.slice h1.a2 D.H.D.n h1.c2)).setCell ⟨w.heap.size + 1, 0, none⟩ (.slice g1.a1 D.G.n g1.c1)).setCell ⟨w.heap.size + 1, 1, none⟩ (.slice g1.a2 D.G.D.n g1.c2)).setCell ⟨w.heap.size + 1, 2, none⟩ (.slice h1.a1 D.H.n h1.c1)).setCell ⟨w.heap.size + 1, 3, none⟩ (.slice h1.a2 D.H.D.n h1.c2)) :=
    ((setn2_mod _ (Or.inr rfl) _ _ _ _).trans (setn2_mod _ (Or.inl rfl) _ _ _ _)).trans (setn2_mod _ (Or.inl rfl) _ _ _ _)
  have h3 := HS3.out
  have h5 := m1.size
  exact ⟨⟨g1, h1⟩, rfl, ⟨fun x => w.heap.size + 1 + 1 + 1 ≤ x ∧ x < z1, fun x => z1 ≤ x ∧ x < w3.heap.size, fun x hx => ⟨⟨by omega, by omega⟩, by omega⟩, fun x hx => ⟨by omega, by omega⟩, HG3.out.mod m1 (fun x hx e => by omega), HH3.out.mod m1 (fun x hx e => by omega)⟩, Mod.blw HB3.out m1 (fun i hi => by omega)⟩
/-- A nest in its own box at z, all in blocks of X. -/
structure BBN (X : Nat → Prop) (z : Nat) (v : NV) (D D' : ND) (w : World) : Prop where
  own : NOwn (fun x => X x ∧ x ≠ z) w v D'
  box : Row w z 4 (nb v D)
theorem BBN.st {X : Nat → Prop} {z : Nat} {v : NV} {D D' : ND} {w : World} (h : BBN X z v D D' w) (hz : X z) (hX : ∀ b, X b → b < w.heap.size) : St X (BBN X z v D D') w :=
  ⟨hX, fun Z w' hm hx => ⟨h.own.mod hm (fun b hb => hx b hb.1), h.box.mod hm (hx z hz)⟩⟩
structure ArgN (n z : Nat) (v : NV) (D : ND) (w : World) : Prop where
  at_ : NAt (fun x => x < n) w v D
  box : Row w z 4 (nb v D)
theorem ArgN.st {n z a : Nat} {v : NV} {D : ND} {w : World} (h : ArgN n z v D w) (hn : n ≤ a) (hz : z < a) (ha : a ≤ w.heap.size) : St (fun x => x < a) (ArgN n z v D) w :=
  ⟨fun x hx => by omega, fun Z w' hm hx => ⟨h.at_.mod hm (fun b hb => hx b (by omega)), h.box.mod hm (hx z hz)⟩⟩
/-- What answers a nest and a bool. -/
def GivesN (out : ND → Bool → Prop) (w : World) : Ending → World → Prop := fun e w' =>
  ∃ (v : NV) (R : ND) (r : Bool), e = .returned (.tuple #[v.val R, .bool r]) ∧ out R r ∧ R.small ∧ NOwn (fun x => w.heap.size ≤ x ∧ x < w'.heap.size) w' v R ∧ Blw w w'
end Go.Proofs.Ytjplodenflkghaa
