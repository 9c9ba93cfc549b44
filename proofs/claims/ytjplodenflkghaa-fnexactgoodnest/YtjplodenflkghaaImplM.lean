/- MapPage, UnmapPage, ProtectPage: the program's. -/
import Derived.Test.YtjplodenflkghaaChg
import Derived.Test.YtjplodenflkghaaChgU
import Derived.Test.YtjplodenflkghaaChgP
namespace Go.Proofs.Ytjplodenflkghaa
open Go.RowKit
set_option linter.unusedSimpArgs false
set_option linter.unusedVariables false
theorem pass_givesT {out : BD → Bool → Prop} {X : Nat → Prop} {w W : World} {z : Nat} {b : BV} {R : BD} {r : Bool} (hz : w.heap.size ≤ z) (ho : out R r) (hs : R.n + (R.D.n + R.D.tot) ≤ 1048576) (hb : Blw w W) (own : BookOwn X W b R) (hX : ∀ x, X x → w.heap.size ≤ x ∧ x ≠ z ∧ x < W.heap.size) :
    GivesB out w (.returned (.tuple #[b.val R, .bool r])) ((W.setCell ⟨z, 0, none⟩ (.slice b.a1 R.n b.c1)).setCell ⟨z, 1, none⟩ (.slice b.a2 R.D.n b.c2)) := by
  have hm := set2_mod (X := fun x => x = z) W rfl (.slice b.a1 R.n b.c1) (.slice b.a2 R.D.n b.c2)
  have := hm.size
  exact ⟨b, R, r, rfl, ho, hs, (own.mod hm (fun x hx e => (hX x hx).2.1 e)).mono (fun x hx => by have := hX x hx; omega), set2_blw hb hz _ _⟩
set_option maxRecDepth 10000 in
set_option maxHeartbeats 1600000 in
theorem implMap_any (b : BV) (B : BD) (a g y : Int) (Y : Nat → Prop) (w : World) (h : BookAt Y w b B) (hY : ∀ x, Y x → x < w.heap.size) :
    Calls Try.prog 197 #[b.val B, .int .i64 a, .int .i64 g, .int .i64 y] w (GivesB (chOut B a (fun _ oy => oy = 0 ∧ pgOK g ∧ mayOK y) (fun _ => g) y) w) := by
  have hb0 : Blw w ((((w.alloc (.cells #[.slice b.a1 B.n b.c1, .slice b.a2 B.D.n b.c2] 29)).alloc (.cells #[.int .i64 g] 3)).alloc (.cells #[.int .i64 y] 3)).alloc (.cells #[.slice none 0 0, .slice none 0 0] 29)) := ((((Blw.refl _).alloc _).alloc _).alloc _).alloc _
  have HA : Hid (BookAt Y ((((w.alloc (.cells #[.slice b.a1 B.n b.c1, .slice b.a2 B.D.n b.c2] 29)).alloc (.cells #[.int .i64 g] 3)).alloc (.cells #[.int .i64 y] 3)).alloc (.cells #[.slice none 0 0, .slice none 0 0] 29)) b B) := h.blw hb0
  have rA := (box2 w (.slice b.a1 B.n b.c1) (.slice b.a2 B.D.n b.c2) 29).blw (show Blw (w.alloc (.cells #[.slice b.a1 B.n b.c1, .slice b.a2 B.D.n b.c2] 29)) ((((w.alloc (.cells #[.slice b.a1 B.n b.c1, .slice b.a2 B.D.n b.c2] 29)).alloc (.cells #[.int .i64 g] 3)).alloc (.cells #[.int .i64 y] 3)).alloc (.cells #[.slice none 0 0, .slice none 0 0] 29)) from (((Blw.refl _).alloc _).alloc _).alloc _)
  have rR := box2 (((w.alloc (.cells #[.slice b.a1 B.n b.c1, .slice b.a2 B.D.n b.c2] 29)).alloc (.cells #[.int .i64 g] 3)).alloc (.cells #[.int .i64 y] 3)) (.slice none 0 0) (.slice none 0 0) 29
  simp only [World.size_alloc] at rR
  have hc0 := (box1 (w.alloc (.cells #[.slice b.a1 B.n b.c1, .slice b.a2 B.D.n b.c2] 29)) (.int .i64 g) 3).blw (show Blw ((w.alloc (.cells #[.slice b.a1 B.n b.c1, .slice b.a2 B.D.n b.c2] 29)).alloc (.cells #[.int .i64 g] 3)) ((((w.alloc (.cells #[.slice b.a1 B.n b.c1, .slice b.a2 B.D.n b.c2] 29)).alloc (.cells #[.int .i64 g] 3)).alloc (.cells #[.int .i64 y] 3)).alloc (.cells #[.slice none 0 0, .slice none 0 0] 29)) from ((Blw.refl _).alloc _).alloc _)
  simp only [World.size_alloc] at hc0
  have hc1 := (box1 ((w.alloc (.cells #[.slice b.a1 B.n b.c1, .slice b.a2 B.D.n b.c2] 29)).alloc (.cells #[.int .i64 g] 3)) (.int .i64 y) 3).blw (show Blw (((w.alloc (.cells #[.slice b.a1 B.n b.c1, .slice b.a2 B.D.n b.c2] 29)).alloc (.cells #[.int .i64 g] 3)).alloc (.cells #[.int .i64 y] 3)) ((((w.alloc (.cells #[.slice b.a1 B.n b.c1, .slice b.a2 B.D.n b.c2] 29)).alloc (.cells #[.int .i64 g] 3)).alloc (.cells #[.int .i64 y] 3)).alloc (.cells #[.slice none 0 0, .slice none 0 0] 29)) from (Blw.refl _).alloc _)
  simp only [World.size_alloc] at hc1
  have hsz : ((((w.alloc (.cells #[.slice b.a1 B.n b.c1, .slice b.a2 B.D.n b.c2] 29)).alloc (.cells #[.int .i64 g] 3)).alloc (.cells #[.int .i64 y] 3)).alloc (.cells #[.slice none 0 0, .slice none 0 0] 29)).heap.size = w.heap.size + 1 + 1 + 1 + 1 := by simp
  clear h
  go_enter Try.func197, Try.ntmps197
  obtain ⟨p0, p1⟩ := get2 rA
  go_wp2_with fail
  clear p0 p1 rA
  revert hb0 HA rR hc0 hc1 hsz
  generalize ((((w.alloc (.cells #[.slice b.a1 B.n b.c1, .slice b.a2 B.D.n b.c2] 29)).alloc (.cells #[.int .i64 g] 3)).alloc (.cells #[.int .i64 y] 3)).alloc (.cells #[.slice none 0 0, .slice none 0 0] 29)) = w0
  intro hb0 HA rR hc0 hc1 hsz
  refine (changeMap_any b B a g y (w.heap.size + 1) (w.heap.size + 1 + 1) Y _ HA.out (fun x hx => by have := hY x hx; omega) hc0 hc1).mono ?_
  rintro e w1 ⟨b1, R, r, rfl, ho, hs, own, hb1⟩
  have hr := rR.blw hb1
  have hlt := hr.lt
  have FIN : Hid _ := pass_givesT (w := w) (W := w1) (z := w.heap.size + 1 + 1 + 1) (by omega) ho hs (hb0.trans hb1) own (fun x hx => ⟨by omega, by omega, hx.2⟩)
  obtain ⟨t0, t1⟩ := get2 hr
  have f0 := hr.frozen 0
  have f1 := hr.frozen 1
  clear HA rR hb0 hb1 own ho hs hr hsz hlt hc0 hc1
  go_wp2
  exact bodyPost_ret (v := .tuple #[b1.val R, .bool r]) (by simp [results, Try.results197, go_sem, t0, t1]) rfl FIN.out
set_option maxRecDepth 10000 in
set_option maxHeartbeats 1600000 in
theorem implUnmap_any (b : BV) (B : BD) (a : Int) (Y : Nat → Prop) (w : World) (h : BookAt Y w b B) (hY : ∀ x, Y x → x < w.heap.size) :
    Calls Try.prog 198 #[b.val B, .int .i64 a] w (GivesB (chOut B a (fun _ oy => ¬ oy = 0) (fun _ => 0) 0) w) := by
  have hb0 : Blw w ((w.alloc (.cells #[.slice b.a1 B.n b.c1, .slice b.a2 B.D.n b.c2] 29)).alloc (.cells #[.slice none 0 0, .slice none 0 0] 29)) := ((Blw.refl _).alloc _).alloc _
  have HA : Hid (BookAt Y ((w.alloc (.cells #[.slice b.a1 B.n b.c1, .slice b.a2 B.D.n b.c2] 29)).alloc (.cells #[.slice none 0 0, .slice none 0 0] 29)) b B) := h.blw hb0
  have rA := (box2 w (.slice b.a1 B.n b.c1) (.slice b.a2 B.D.n b.c2) 29).blw (show Blw (w.alloc (.cells #[.slice b.a1 B.n b.c1, .slice b.a2 B.D.n b.c2] 29)) ((w.alloc (.cells #[.slice b.a1 B.n b.c1, .slice b.a2 B.D.n b.c2] 29)).alloc (.cells #[.slice none 0 0, .slice none 0 0] 29)) from (Blw.refl _).alloc _)
  have rR := box2 (w.alloc (.cells #[.slice b.a1 B.n b.c1, .slice b.a2 B.D.n b.c2] 29)) (.slice none 0 0) (.slice none 0 0) 29
  simp only [World.size_alloc] at rR
  have hsz : ((w.alloc (.cells #[.slice b.a1 B.n b.c1, .slice b.a2 B.D.n b.c2] 29)).alloc (.cells #[.slice none 0 0, .slice none 0 0] 29)).heap.size = w.heap.size + 1 + 1 := by simp
  clear h
  go_enter Try.func198, Try.ntmps198
  obtain ⟨p0, p1⟩ := get2 rA
  go_wp2_with fail
  clear p0 p1 rA
  revert hb0 HA rR  hsz
  generalize ((w.alloc (.cells #[.slice b.a1 B.n b.c1, .slice b.a2 B.D.n b.c2] 29)).alloc (.cells #[.slice none 0 0, .slice none 0 0] 29)) = w0
  intro hb0 HA rR  hsz
  refine (changeUnmap_any b B a Y _ HA.out (fun x hx => by have := hY x hx; omega)).mono ?_
  rintro e w1 ⟨b1, R, r, rfl, ho, hs, own, hb1⟩
  have hr := rR.blw hb1
  have hlt := hr.lt
  have FIN : Hid _ := pass_givesT (w := w) (W := w1) (z := w.heap.size + 1) (by omega) ho hs (hb0.trans hb1) own (fun x hx => ⟨by omega, by omega, hx.2⟩)
  obtain ⟨t0, t1⟩ := get2 hr
  have f0 := hr.frozen 0
  have f1 := hr.frozen 1
  clear HA rR hb0 hb1 own ho hs hr hsz hlt 
  go_wp2
  exact bodyPost_ret (v := .tuple #[b1.val R, .bool r]) (by simp [results, Try.results198, go_sem, t0, t1]) rfl FIN.out
set_option maxRecDepth 10000 in
set_option maxHeartbeats 1600000 in
theorem implProt_any (b : BV) (B : BD) (a y : Int) (Y : Nat → Prop) (w : World) (h : BookAt Y w b B) (hY : ∀ x, Y x → x < w.heap.size) :
    Calls Try.prog 199 #[b.val B, .int .i64 a, .int .i64 y] w (GivesB (chOut B a (fun _ oy => ¬ oy = 0 ∧ mayOK y) (fun o => o) y) w) := by
  have hb0 : Blw w (((w.alloc (.cells #[.slice b.a1 B.n b.c1, .slice b.a2 B.D.n b.c2] 29)).alloc (.cells #[.int .i64 y] 3)).alloc (.cells #[.slice none 0 0, .slice none 0 0] 29)) := (((Blw.refl _).alloc _).alloc _).alloc _
  have HA : Hid (BookAt Y (((w.alloc (.cells #[.slice b.a1 B.n b.c1, .slice b.a2 B.D.n b.c2] 29)).alloc (.cells #[.int .i64 y] 3)).alloc (.cells #[.slice none 0 0, .slice none 0 0] 29)) b B) := h.blw hb0
  have rA := (box2 w (.slice b.a1 B.n b.c1) (.slice b.a2 B.D.n b.c2) 29).blw (show Blw (w.alloc (.cells #[.slice b.a1 B.n b.c1, .slice b.a2 B.D.n b.c2] 29)) (((w.alloc (.cells #[.slice b.a1 B.n b.c1, .slice b.a2 B.D.n b.c2] 29)).alloc (.cells #[.int .i64 y] 3)).alloc (.cells #[.slice none 0 0, .slice none 0 0] 29)) from ((Blw.refl _).alloc _).alloc _)
  have rR := box2 ((w.alloc (.cells #[.slice b.a1 B.n b.c1, .slice b.a2 B.D.n b.c2] 29)).alloc (.cells #[.int .i64 y] 3)) (.slice none 0 0) (.slice none 0 0) 29
  simp only [World.size_alloc] at rR
  have hc0 := (box1 (w.alloc (.cells #[.slice b.a1 B.n b.c1, .slice b.a2 B.D.n b.c2] 29)) (.int .i64 y) 3).blw (show Blw ((w.alloc (.cells #[.slice b.a1 B.n b.c1, .slice b.a2 B.D.n b.c2] 29)).alloc (.cells #[.int .i64 y] 3)) (((w.alloc (.cells #[.slice b.a1 B.n b.c1, .slice b.a2 B.D.n b.c2] 29)).alloc (.cells #[.int .i64 y] 3)).alloc (.cells #[.slice none 0 0, .slice none 0 0] 29)) from (Blw.refl _).alloc _)
  simp only [World.size_alloc] at hc0
  have hsz : (((w.alloc (.cells #[.slice b.a1 B.n b.c1, .slice b.a2 B.D.n b.c2] 29)).alloc (.cells #[.int .i64 y] 3)).alloc (.cells #[.slice none 0 0, .slice none 0 0] 29)).heap.size = w.heap.size + 1 + 1 + 1 := by simp
  clear h
  go_enter Try.func199, Try.ntmps199
  obtain ⟨p0, p1⟩ := get2 rA
  go_wp2_with fail
  clear p0 p1 rA
  revert hb0 HA rR hc0 hsz
  generalize (((w.alloc (.cells #[.slice b.a1 B.n b.c1, .slice b.a2 B.D.n b.c2] 29)).alloc (.cells #[.int .i64 y] 3)).alloc (.cells #[.slice none 0 0, .slice none 0 0] 29)) = w0
  intro hb0 HA rR hc0 hsz
  refine (changeProt_any b B a y (w.heap.size + 1) Y _ HA.out (fun x hx => by have := hY x hx; omega) hc0).mono ?_
  rintro e w1 ⟨b1, R, r, rfl, ho, hs, own, hb1⟩
  have hr := rR.blw hb1
  have hlt := hr.lt
  have FIN : Hid _ := pass_givesT (w := w) (W := w1) (z := w.heap.size + 1 + 1) (by omega) ho hs (hb0.trans hb1) own (fun x hx => ⟨by omega, by omega, hx.2⟩)
  obtain ⟨t0, t1⟩ := get2 hr
  have f0 := hr.frozen 0
  have f1 := hr.frozen 1
  clear HA rR hb0 hb1 own ho hs hr hsz hlt hc0
  go_wp2
  exact bodyPost_ret (v := .tuple #[b1.val R, .bool r]) (by simp [results, Try.results199, go_sem, t0, t1]) rfl FIN.out
end Go.Proofs.Ytjplodenflkghaa
