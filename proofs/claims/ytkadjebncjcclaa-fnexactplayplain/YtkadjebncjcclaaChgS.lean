/- Tables changed by a step: the program's and the model's. -/
import Derived.Test.YtkadjebncjcclaaStep
namespace Go.Proofs.Ytkadjebncjcclaa
open Go.RowKit
set_option linter.unusedSimpArgs false
set_option linter.unusedVariables false
def chgO (B : BD) (k a g y : Int) (R : BD) (r : Bool) : Prop :=
  (k = 2 → chOut B a (fun _ oy => oy = 0 ∧ pgOK g ∧ mayOK y) (fun _ => g) y R r) ∧ (k = 3 → chOut B a (fun _ oy => ¬ oy = 0) (fun _ => 0) 0 R r) ∧ (k = 4 → chOut B a (fun _ oy => ¬ oy = 0 ∧ mayOK y) (fun o => o) y R r)
theorem chgO_same {B : BD} {k a g y : Int} {R R' : BD} {r r' : Bool} (hk : k = 2 ∨ k = 3 ∨ k = 4) (h : chgO B k a g y R r) (h' : chgO B k a g y R' r') : R = R' ∧ r = r' := by
  rcases hk with e | e | e
  · exact chOut_same (h.1 e) (h'.1 e)
  · exact chOut_same (h.2.1 e) (h'.2.1 e)
  · exact chOut_same (h.2.2 e) (h'.2.2 e)
theorem ch_len {B : BD} {a : Int} {P : Int → Int → Prop} {G : Int → Int} {y : Int} {R : BD} {r : Bool} (h : chOut B a P G y R r) (hr : r = true) : ∃ c p m, R = ⟨4, c, ⟨B.D.n, fun _ => 4, p, m⟩⟩ := by
  rcases h with ⟨_, ⟨q, _, rfl⟩, _⟩ | ⟨_, _, e⟩
  · exact ⟨_, _, _, rfl⟩
  · rw [e] at hr; cases hr
theorem chg_len {B : BD} {k a g y : Int} {R : BD} {r : Bool} (hk : k = 2 ∨ k = 3 ∨ k = 4) (h : chgO B k a g y R r) (hr : r = true) : ∃ c p m, R = ⟨4, c, ⟨B.D.n, fun _ => 4, p, m⟩⟩ := by
  rcases hk with e | e | e
  · exact ch_len (h.1 e) hr
  · exact ch_len (h.2.1 e) hr
  · exact ch_len (h.2.2 e) hr
set_option maxRecDepth 10000 in
set_option maxHeartbeats 3200000 in
theorem specChg_any (b : BV) (B : BD) (k a g y : Int) (Y : Nat → Prop) (w : World) (hn : B.n ≤ 1048576) (hk : k = 2 ∨ k = 3 ∨ k = 4) (h : BookAt Y w b B) :
    Calls Try.prog 64 #[b.val B, .agg #[.int .i64 k, .int .i64 a, .int .i64 g, .int .i64 y]] w (GivesB (chgO B k a g y) w) := by
  have hA1 : Blw w (w.alloc (.cells #[.slice b.a1 B.n b.c1, .slice b.a2 B.D.n b.c2] 29)) := (Blw.refl _).alloc _
  have hA2 : Blw (w.alloc (.cells #[.slice b.a1 B.n b.c1, .slice b.a2 B.D.n b.c2] 29)) ((w.alloc (.cells #[.slice b.a1 B.n b.c1, .slice b.a2 B.D.n b.c2] 29)).alloc (.cells #[.int .i64 k, .int .i64 a, .int .i64 g, .int .i64 y] 42)) := (Blw.refl _).alloc _
  have hA3 : Blw ((w.alloc (.cells #[.slice b.a1 B.n b.c1, .slice b.a2 B.D.n b.c2] 29)).alloc (.cells #[.int .i64 k, .int .i64 a, .int .i64 g, .int .i64 y] 42)) (((w.alloc (.cells #[.slice b.a1 B.n b.c1, .slice b.a2 B.D.n b.c2] 29)).alloc (.cells #[.int .i64 k, .int .i64 a, .int .i64 g, .int .i64 y] 42)).alloc (.cells #[.slice none 0 0, .slice none 0 0] 29)) := (Blw.refl _).alloc _
  have hb0 : Blw w (((w.alloc (.cells #[.slice b.a1 B.n b.c1, .slice b.a2 B.D.n b.c2] 29)).alloc (.cells #[.int .i64 k, .int .i64 a, .int .i64 g, .int .i64 y] 42)).alloc (.cells #[.slice none 0 0, .slice none 0 0] 29)) := (hA1.trans hA2).trans hA3
  have HA : Hid (BookAt Y (((w.alloc (.cells #[.slice b.a1 B.n b.c1, .slice b.a2 B.D.n b.c2] 29)).alloc (.cells #[.int .i64 k, .int .i64 a, .int .i64 g, .int .i64 y] 42)).alloc (.cells #[.slice none 0 0, .slice none 0 0] 29)) b B) := h.blw hb0
  have rA := (box2 w (.slice b.a1 B.n b.c1) (.slice b.a2 B.D.n b.c2) 29).blw (hA2.trans hA3)
  have rS := (box4 (w.alloc (.cells #[.slice b.a1 B.n b.c1, .slice b.a2 B.D.n b.c2] 29)) (.int .i64 k) (.int .i64 a) (.int .i64 g) (.int .i64 y) 42).blw hA3
  have rR := box2 ((w.alloc (.cells #[.slice b.a1 B.n b.c1, .slice b.a2 B.D.n b.c2] 29)).alloc (.cells #[.int .i64 k, .int .i64 a, .int .i64 g, .int .i64 y] 42)) (.slice none 0 0) (.slice none 0 0) 29
  simp only [World.size_alloc] at rS rR
  have hsz : (((w.alloc (.cells #[.slice b.a1 B.n b.c1, .slice b.a2 B.D.n b.c2] 29)).alloc (.cells #[.int .i64 k, .int .i64 a, .int .i64 g, .int .i64 y] 42)).alloc (.cells #[.slice none 0 0, .slice none 0 0] 29)).heap.size = w.heap.size + 1 + 1 + 1 := by simp
  clear h hA1 hA2 hA3
  go_enter Try.func64, Try.ntmps64
  obtain ⟨p0, p1⟩ := get2 rA
  obtain ⟨q0, q1, q2, q3⟩ := get4 rS
  clear rA rS
  by_cases k2 : k = 2
  · subst k2
    clear hk
    go_wp2_with fail
    clear p0 p1 q0 q1 q2 q3
    have HSZ : Hid ((((w.alloc (.cells #[.slice b.a1 B.n b.c1, .slice b.a2 B.D.n b.c2] 29)).alloc (.cells #[.int .i64 2, .int .i64 a, .int .i64 g, .int .i64 y] 42)).alloc (.cells #[.slice none 0 0, .slice none 0 0] 29)).heap.size = w.heap.size + 1 + 1 + 1) := hsz
    clear hsz
    generalize (((w.alloc (.cells #[.slice b.a1 B.n b.c1, .slice b.a2 B.D.n b.c2] 29)).alloc (.cells #[.int .i64 2, .int .i64 a, .int .i64 g, .int .i64 y] 42)).alloc (.cells #[.slice none 0 0, .slice none 0 0] 29)) = w0 at *
    refine (specMap_any b B a g y Y _ hn HA.out).mono ?_
    rintro e w1 ⟨b1, R, r, rfl, ho, hs, own, hb1⟩
    have hz := HSZ.out
    have hr := rR.blw hb1
    have hlt := hr.lt
    have FIN : Hid _ := pass_givesT (out := chgO B 2 a g y) (w := w) (W := w1) (z := w.heap.size + 1 + 1) (by omega) ⟨fun _ => ho, fun e => absurd e (by decide), fun e => absurd e (by decide)⟩ hs (hb0.trans hb1) own (fun x hx => ⟨by omega, by omega, hx.2⟩)
    obtain ⟨t0, t1⟩ := get2 hr
    have f0 := hr.frozen 0
    have f1 := hr.frozen 1
    clear HA rR hb0 hb1 own ho hs hr hz hlt HSZ
    go_wp2
    exact bodyPost_ret (v := .tuple #[b1.val R, .bool r]) (by simp [results, Try.results64, go_sem, t0, t1]) rfl FIN.out
  have d2 : (k == 2) = false := by simp [k2]
  by_cases k3 : k = 3
  · subst k3
    clear hk
    go_wp2_with fail
    clear p0 p1 q0 q1 q2 q3
    have HSZ : Hid ((((w.alloc (.cells #[.slice b.a1 B.n b.c1, .slice b.a2 B.D.n b.c2] 29)).alloc (.cells #[.int .i64 3, .int .i64 a, .int .i64 g, .int .i64 y] 42)).alloc (.cells #[.slice none 0 0, .slice none 0 0] 29)).heap.size = w.heap.size + 1 + 1 + 1) := hsz
    clear hsz
    generalize (((w.alloc (.cells #[.slice b.a1 B.n b.c1, .slice b.a2 B.D.n b.c2] 29)).alloc (.cells #[.int .i64 3, .int .i64 a, .int .i64 g, .int .i64 y] 42)).alloc (.cells #[.slice none 0 0, .slice none 0 0] 29)) = w0 at *
    refine (specUnmap_any b B a Y _ hn HA.out).mono ?_
    rintro e w1 ⟨b1, R, r, rfl, ho, hs, own, hb1⟩
    have hz := HSZ.out
    have hr := rR.blw hb1
    have hlt := hr.lt
    have FIN : Hid _ := pass_givesT (out := chgO B 3 a g y) (w := w) (W := w1) (z := w.heap.size + 1 + 1) (by omega) ⟨fun e => absurd e (by decide), fun _ => ho, fun e => absurd e (by decide)⟩ hs (hb0.trans hb1) own (fun x hx => ⟨by omega, by omega, hx.2⟩)
    obtain ⟨t0, t1⟩ := get2 hr
    have f0 := hr.frozen 0
    have f1 := hr.frozen 1
    clear HA rR hb0 hb1 own ho hs hr hz hlt HSZ
    go_wp2
    exact bodyPost_ret (v := .tuple #[b1.val R, .bool r]) (by simp [results, Try.results64, go_sem, t0, t1]) rfl FIN.out
  have d3 : (k == 3) = false := by simp [k3]
  by_cases k4 : k = 4
  · subst k4
    clear hk
    go_wp2_with fail
    clear p0 p1 q0 q1 q2 q3
    have HSZ : Hid ((((w.alloc (.cells #[.slice b.a1 B.n b.c1, .slice b.a2 B.D.n b.c2] 29)).alloc (.cells #[.int .i64 4, .int .i64 a, .int .i64 g, .int .i64 y] 42)).alloc (.cells #[.slice none 0 0, .slice none 0 0] 29)).heap.size = w.heap.size + 1 + 1 + 1) := hsz
    clear hsz
    generalize (((w.alloc (.cells #[.slice b.a1 B.n b.c1, .slice b.a2 B.D.n b.c2] 29)).alloc (.cells #[.int .i64 4, .int .i64 a, .int .i64 g, .int .i64 y] 42)).alloc (.cells #[.slice none 0 0, .slice none 0 0] 29)) = w0 at *
    refine (specProt_any b B a y Y _ hn HA.out).mono ?_
    rintro e w1 ⟨b1, R, r, rfl, ho, hs, own, hb1⟩
    have hz := HSZ.out
    have hr := rR.blw hb1
    have hlt := hr.lt
    have FIN : Hid _ := pass_givesT (out := chgO B 4 a g y) (w := w) (W := w1) (z := w.heap.size + 1 + 1) (by omega) ⟨fun e => absurd e (by decide), fun e => absurd e (by decide), fun _ => ho⟩ hs (hb0.trans hb1) own (fun x hx => ⟨by omega, by omega, hx.2⟩)
    obtain ⟨t0, t1⟩ := get2 hr
    have f0 := hr.frozen 0
    have f1 := hr.frozen 1
    clear HA rR hb0 hb1 own ho hs hr hz hlt HSZ
    go_wp2
    exact bodyPost_ret (v := .tuple #[b1.val R, .bool r]) (by simp [results, Try.results64, go_sem, t0, t1]) rfl FIN.out
  have d4 : (k == 4) = false := by simp [k4]
  exfalso; omega
set_option maxRecDepth 10000 in
set_option maxHeartbeats 3200000 in
theorem implChg_any (b : BV) (B : BD) (k a g y : Int) (Y : Nat → Prop) (w : World) (hY : ∀ x, Y x → x < w.heap.size) (hk : k = 2 ∨ k = 3 ∨ k = 4) (h : BookAt Y w b B) :
    Calls Try.prog 135 #[b.val B, .agg #[.int .i64 k, .int .i64 a, .int .i64 g, .int .i64 y]] w (GivesB (chgO B k a g y) w) := by
  have hA1 : Blw w (w.alloc (.cells #[.slice b.a1 B.n b.c1, .slice b.a2 B.D.n b.c2] 29)) := (Blw.refl _).alloc _
  have hA2 : Blw (w.alloc (.cells #[.slice b.a1 B.n b.c1, .slice b.a2 B.D.n b.c2] 29)) ((w.alloc (.cells #[.slice b.a1 B.n b.c1, .slice b.a2 B.D.n b.c2] 29)).alloc (.cells #[.int .i64 k, .int .i64 a, .int .i64 g, .int .i64 y] 42)) := (Blw.refl _).alloc _
  have hA3 : Blw ((w.alloc (.cells #[.slice b.a1 B.n b.c1, .slice b.a2 B.D.n b.c2] 29)).alloc (.cells #[.int .i64 k, .int .i64 a, .int .i64 g, .int .i64 y] 42)) (((w.alloc (.cells #[.slice b.a1 B.n b.c1, .slice b.a2 B.D.n b.c2] 29)).alloc (.cells #[.int .i64 k, .int .i64 a, .int .i64 g, .int .i64 y] 42)).alloc (.cells #[.slice none 0 0, .slice none 0 0] 29)) := (Blw.refl _).alloc _
  have hb0 : Blw w (((w.alloc (.cells #[.slice b.a1 B.n b.c1, .slice b.a2 B.D.n b.c2] 29)).alloc (.cells #[.int .i64 k, .int .i64 a, .int .i64 g, .int .i64 y] 42)).alloc (.cells #[.slice none 0 0, .slice none 0 0] 29)) := (hA1.trans hA2).trans hA3
  have HA : Hid (BookAt Y (((w.alloc (.cells #[.slice b.a1 B.n b.c1, .slice b.a2 B.D.n b.c2] 29)).alloc (.cells #[.int .i64 k, .int .i64 a, .int .i64 g, .int .i64 y] 42)).alloc (.cells #[.slice none 0 0, .slice none 0 0] 29)) b B) := h.blw hb0
  have rA := (box2 w (.slice b.a1 B.n b.c1) (.slice b.a2 B.D.n b.c2) 29).blw (hA2.trans hA3)
  have rS := (box4 (w.alloc (.cells #[.slice b.a1 B.n b.c1, .slice b.a2 B.D.n b.c2] 29)) (.int .i64 k) (.int .i64 a) (.int .i64 g) (.int .i64 y) 42).blw hA3
  have rR := box2 ((w.alloc (.cells #[.slice b.a1 B.n b.c1, .slice b.a2 B.D.n b.c2] 29)).alloc (.cells #[.int .i64 k, .int .i64 a, .int .i64 g, .int .i64 y] 42)) (.slice none 0 0) (.slice none 0 0) 29
  simp only [World.size_alloc] at rS rR
  have hsz : (((w.alloc (.cells #[.slice b.a1 B.n b.c1, .slice b.a2 B.D.n b.c2] 29)).alloc (.cells #[.int .i64 k, .int .i64 a, .int .i64 g, .int .i64 y] 42)).alloc (.cells #[.slice none 0 0, .slice none 0 0] 29)).heap.size = w.heap.size + 1 + 1 + 1 := by simp
  clear h hA1 hA2 hA3
  go_enter Try.func135, Try.ntmps135
  obtain ⟨p0, p1⟩ := get2 rA
  obtain ⟨q0, q1, q2, q3⟩ := get4 rS
  clear rA rS
  by_cases k2 : k = 2
  · subst k2
    clear hk
    go_wp2_with fail
    clear p0 p1 q0 q1 q2 q3
    have HSZ : Hid ((((w.alloc (.cells #[.slice b.a1 B.n b.c1, .slice b.a2 B.D.n b.c2] 29)).alloc (.cells #[.int .i64 2, .int .i64 a, .int .i64 g, .int .i64 y] 42)).alloc (.cells #[.slice none 0 0, .slice none 0 0] 29)).heap.size = w.heap.size + 1 + 1 + 1) := hsz
    clear hsz
    generalize (((w.alloc (.cells #[.slice b.a1 B.n b.c1, .slice b.a2 B.D.n b.c2] 29)).alloc (.cells #[.int .i64 2, .int .i64 a, .int .i64 g, .int .i64 y] 42)).alloc (.cells #[.slice none 0 0, .slice none 0 0] 29)) = w0 at *
    refine (implMap_any b B a g y Y _ HA.out (fun x hx => by have := hY x hx; have := HSZ.out; omega)).mono ?_
    rintro e w1 ⟨b1, R, r, rfl, ho, hs, own, hb1⟩
    have hz := HSZ.out
    have hr := rR.blw hb1
    have hlt := hr.lt
    have FIN : Hid _ := pass_givesT (out := chgO B 2 a g y) (w := w) (W := w1) (z := w.heap.size + 1 + 1) (by omega) ⟨fun _ => ho, fun e => absurd e (by decide), fun e => absurd e (by decide)⟩ hs (hb0.trans hb1) own (fun x hx => ⟨by omega, by omega, hx.2⟩)
    obtain ⟨t0, t1⟩ := get2 hr
    have f0 := hr.frozen 0
    have f1 := hr.frozen 1
    clear HA rR hb0 hb1 own ho hs hr hz hlt HSZ
    go_wp2
    exact bodyPost_ret (v := .tuple #[b1.val R, .bool r]) (by simp [results, Try.results135, go_sem, t0, t1]) rfl FIN.out
  have d2 : (k == 2) = false := by simp [k2]
  by_cases k3 : k = 3
  · subst k3
    clear hk
    go_wp2_with fail
    clear p0 p1 q0 q1 q2 q3
    have HSZ : Hid ((((w.alloc (.cells #[.slice b.a1 B.n b.c1, .slice b.a2 B.D.n b.c2] 29)).alloc (.cells #[.int .i64 3, .int .i64 a, .int .i64 g, .int .i64 y] 42)).alloc (.cells #[.slice none 0 0, .slice none 0 0] 29)).heap.size = w.heap.size + 1 + 1 + 1) := hsz
    clear hsz
    generalize (((w.alloc (.cells #[.slice b.a1 B.n b.c1, .slice b.a2 B.D.n b.c2] 29)).alloc (.cells #[.int .i64 3, .int .i64 a, .int .i64 g, .int .i64 y] 42)).alloc (.cells #[.slice none 0 0, .slice none 0 0] 29)) = w0 at *
    refine (implUnmap_any b B a Y _ HA.out (fun x hx => by have := hY x hx; have := HSZ.out; omega)).mono ?_
    rintro e w1 ⟨b1, R, r, rfl, ho, hs, own, hb1⟩
    have hz := HSZ.out
    have hr := rR.blw hb1
    have hlt := hr.lt
    have FIN : Hid _ := pass_givesT (out := chgO B 3 a g y) (w := w) (W := w1) (z := w.heap.size + 1 + 1) (by omega) ⟨fun e => absurd e (by decide), fun _ => ho, fun e => absurd e (by decide)⟩ hs (hb0.trans hb1) own (fun x hx => ⟨by omega, by omega, hx.2⟩)
    obtain ⟨t0, t1⟩ := get2 hr
    have f0 := hr.frozen 0
    have f1 := hr.frozen 1
    clear HA rR hb0 hb1 own ho hs hr hz hlt HSZ
    go_wp2
    exact bodyPost_ret (v := .tuple #[b1.val R, .bool r]) (by simp [results, Try.results135, go_sem, t0, t1]) rfl FIN.out
  have d3 : (k == 3) = false := by simp [k3]
  by_cases k4 : k = 4
  · subst k4
    clear hk
    go_wp2_with fail
    clear p0 p1 q0 q1 q2 q3
    have HSZ : Hid ((((w.alloc (.cells #[.slice b.a1 B.n b.c1, .slice b.a2 B.D.n b.c2] 29)).alloc (.cells #[.int .i64 4, .int .i64 a, .int .i64 g, .int .i64 y] 42)).alloc (.cells #[.slice none 0 0, .slice none 0 0] 29)).heap.size = w.heap.size + 1 + 1 + 1) := hsz
    clear hsz
    generalize (((w.alloc (.cells #[.slice b.a1 B.n b.c1, .slice b.a2 B.D.n b.c2] 29)).alloc (.cells #[.int .i64 4, .int .i64 a, .int .i64 g, .int .i64 y] 42)).alloc (.cells #[.slice none 0 0, .slice none 0 0] 29)) = w0 at *
    refine (implProt_any b B a y Y _ HA.out (fun x hx => by have := hY x hx; have := HSZ.out; omega)).mono ?_
    rintro e w1 ⟨b1, R, r, rfl, ho, hs, own, hb1⟩
    have hz := HSZ.out
    have hr := rR.blw hb1
    have hlt := hr.lt
    have FIN : Hid _ := pass_givesT (out := chgO B 4 a g y) (w := w) (W := w1) (z := w.heap.size + 1 + 1) (by omega) ⟨fun e => absurd e (by decide), fun e => absurd e (by decide), fun _ => ho⟩ hs (hb0.trans hb1) own (fun x hx => ⟨by omega, by omega, hx.2⟩)
    obtain ⟨t0, t1⟩ := get2 hr
    have f0 := hr.frozen 0
    have f1 := hr.frozen 1
    clear HA rR hb0 hb1 own ho hs hr hz hlt HSZ
    go_wp2
    exact bodyPost_ret (v := .tuple #[b1.val R, .bool r]) (by simp [results, Try.results135, go_sem, t0, t1]) rfl FIN.out
  have d4 : (k == 4) = false := by simp [k4]
  exfalso; omega
end Go.Proofs.Ytkadjebncjcclaa
