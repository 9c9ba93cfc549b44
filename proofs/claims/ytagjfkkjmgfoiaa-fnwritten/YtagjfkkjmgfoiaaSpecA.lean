/- WriteCell of the model, and WriteAll of both. -/
import Derived.Test.YtagjfkkjmgfoiaaSpecR
namespace Go.Proofs.Ytagjfkkjmgfoiaa
open Go.RowKit
set_option linter.unusedSimpArgs false
set_option linter.unusedVariables false
set_option maxHeartbeats 1600000 in
theorem l3Pair_any (k x : Int) (w : World) : Calls Try.prog 61 #[.int .i64 k, .int .i64 x] w fun e w' => ∃ r, e = .returned (.bool r) ∧ (r = true ↔ cellOK k ∧ wordOK x) ∧ w' = w := by
  by_cases h1 : cellOK k
  · have H1 : Hid (cellOK k) := h1
    by_cases h2 : wordOK x
    · have H2 : Hid (wordOK x) := h2
      clear h1 h2
      go_enter Try.func61, Try.ntmps61
      go_wp2_with fail
      refine (l1In_yes _ _ _ _ H1.out.1 H1.out.2).mono ?_
      rintro e w' ⟨rfl, rfl⟩
      go_wp2_with fail
      refine (l1In_yes _ _ _ _ H2.out.1 H2.out.2).mono ?_
      rintro e w' ⟨rfl, rfl⟩
      go_wp2
      go_ret
      exact ⟨true, rfl, ⟨fun _ => ⟨H1.out, H2.out⟩, fun _ => rfl⟩, rfl⟩
    · have H2 : Hid (¬ wordOK x) := h2
      clear h1 h2
      go_enter Try.func61, Try.ntmps61
      go_wp2_with fail
      refine (l1In_yes _ _ _ _ H1.out.1 H1.out.2).mono ?_
      rintro e w' ⟨rfl, rfl⟩
      go_wp2_with fail
      refine (l1In_no _ _ _ _ H2.out).mono ?_
      rintro e w' ⟨rfl, rfl⟩
      go_wp2
      go_ret
      exact ⟨false, rfl, ⟨fun e => (by cases e), fun g => absurd g.2 H2.out⟩, rfl⟩
  · have H1 : Hid (¬ cellOK k) := h1
    clear h1
    go_enter Try.func61, Try.ntmps61
    go_wp2_with fail
    refine (l1In_no _ _ _ _ H1.out).mono ?_
    rintro e w' ⟨rfl, rfl⟩
    go_wp2
    go_ret
    exact ⟨false, rfl, ⟨fun e => (by cases e), fun g => absurd g.1 H1.out⟩, rfl⟩
/-- A written book, put into the answer's box at z. -/
theorem wrote_out {w W : World} {z : Nat} {b : BV} {R : BD} {X1 X2 : Nat → Prop} (own : OwnB X1 X2 W b R) (hk : R.n + R.k ≤ 1048576) (hX : ∀ x, X1 x ∨ X2 x → w.heap.size ≤ x ∧ x < W.heap.size ∧ x ≠ z) (hz : w.heap.size ≤ z) (hw : Blw w W) {out : BD → Bool → Prop} (ho : out R true) :
    GivesB out w (.returned (.tuple #[b.val R, .bool true])) ((W.setCell ⟨z, 0, none⟩ (.slice b.a1 R.n b.c1)).setCell ⟨z, 1, none⟩ (.slice b.a2 R.k b.c2)) := by
  have hm := set2_mod (X := fun x => x = z) W rfl (.slice b.a1 R.n b.c1) (.slice b.a2 R.k b.c2)
  have hs := hm.size
  exact ⟨b, R, true, rfl, ho, hk, ((own.book (by omega)).mod hm (fun x hx => (hX x hx).2.2)).mono (fun x hx => by have := hX x hx; omega), Mod.blw hw hm (fun i hi => by omega)⟩
set_option maxHeartbeats 3200000 in
theorem specWrite_any (b : BV) (B : BD) (k x : Int) (Y : Nat → Prop) (w : World) (hS : B.n + B.k ≤ 1048576) (h : BookAt Y w b B) (hY : ∀ b, Y b → b < w.heap.size) :
    Calls Try.prog 31 #[b.val B, .int .i64 k, .int .i64 x] w (GivesB (wcOut B k x) w) := by
  have hb0 : Blw w ((w.alloc (.cells #[.slice b.a1 B.n b.c1, .slice b.a2 B.k b.c2] 26)).alloc (.cells z2 26)) := ((Blw.refl _).alloc _).alloc _
  have HB : Hid (BookAt Y ((w.alloc (.cells #[.slice b.a1 B.n b.c1, .slice b.a2 B.k b.c2] 26)).alloc (.cells z2 26)) b B) := h.blw hb0
  have rA := (box2 w (.slice b.a1 B.n b.c1) (.slice b.a2 B.k b.c2) 26).blw ((Blw.refl _).alloc (.cells z2 26))
  have r0 : Row ((w.alloc (.cells #[.slice b.a1 B.n b.c1, .slice b.a2 B.k b.c2] 26)).alloc (.cells z2 26)) (w.heap.size + 1) 2 (fun i => if i = 0 then .slice none 0 0 else .slice none 0 0) := by
    have := box2 (w.alloc (.cells #[.slice b.a1 B.n b.c1, .slice b.a2 B.k b.c2] 26)) (.slice none 0 0) (.slice none 0 0) 26
    rw [World.size_alloc] at this
    exact this
  clear h
  go_enter Try.func31, Try.ntmps31
  go_wp2_with fail
  refine (specGood_any b B Y _ HB.out (fun x hx => by have := hY x hx; simp; omega)).mono ?_
  rintro e w1 ⟨r, rfl, hr, hb1⟩
  replace r0 := r0.blw hb1
  replace rA := rA.blw hb1
  have HB1 : Hid (BookAt Y w1 b B) := HB.out.blw hb1
  have hw1 : Blw w w1 := hb0.trans hb1
  have HR : Hid (r = true ↔ B.Good) := hr
  clear hb0 hb1 HB hr
  cases r
  · have NG : Hid (¬ B.Good) := fun g => absurd (HR.out.2 g) (by decide)
    obtain ⟨p0, p1⟩ := get2 r0
    have f0 := r0.frozen 0
    have f1 := r0.frozen 1
    clear r0 rA HR HB1
    go_wp2
    exact bodyPost_ret (v := .tuple #[BV.zero.val BD.zero, .bool false]) (by simp [results, Try.results31, go_sem, p0, p1, BV.val]) rfl (zero_fin (Nat.le_succ _) hw1 (Or.inr ⟨fun g => NG.out g.1, rfl, rfl⟩))
  · have GD : Hid B.Good := HR.out.1 rfl
    clear HR
    go_wp2_with fail
    refine (l3Pair_any k x _).mono ?_
    rintro e w' ⟨r, rfl, hr, rfl⟩
    have HR : Hid (r = true ↔ cellOK k ∧ wordOK x) := hr
    clear hr
    cases r
    · have NP : Hid (¬ (cellOK k ∧ wordOK x)) := fun g => absurd (HR.out.2 g) (by decide)
      obtain ⟨p0, p1⟩ := get2 r0
      have f0 := r0.frozen 0
      have f1 := r0.frozen 1
      clear r0 rA HR HB1
      go_wp2
      exact bodyPost_ret (v := .tuple #[BV.zero.val BD.zero, .bool false]) (by simp [results, Try.results31, go_sem, p0, p1, BV.val]) rfl (zero_fin (Nat.le_succ _) hw1 (Or.inr ⟨fun g => NP.out g.2, rfl, rfl⟩))
    · have PP : Hid (cellOK k ∧ wordOK x) := HR.out.1 rfl
      have hk8 := GD.out.k8
      obtain ⟨n, hn, rfl⟩ : ∃ n : Nat, n < 8 ∧ k = n := ⟨k.toNat, by have := PP.out.1; unfold cellOK at this; omega, by have := PP.out.1; unfold cellOK at this; omega⟩
      obtain ⟨p0, p1⟩ := get2 rA
      clear HR rA
      go_wp2_with fail
      clear p0 p1
      refine (l3Own_any b B Y _ hS HB1.out).mono ?_
      rintro e w2 ⟨b2, rfl, X1, X2, own2, hX2, hb2⟩
      have H2 : Hid (OwnB X1 X2 w2 b2 B) := own2
      have HX2 : Hid (∀ x, X1 x ∨ X2 x → w'.heap.size + 1 < x ∧ x < w2.heap.size) := hX2
      have HW2 : Hid (Blw w w2) := hw1.trans hb2
      have hz := r0.lt
      have HR0 : Hid (Row w2 (w.heap.size + 1) 2 (fun i => if i = 0 then .slice none 0 0 else .slice none 0 0)) := r0.blw hb2
      have HZ : Hid (w.heap.size + 1 < w'.heap.size) := hz
      clear own2 hX2 hb2 r0 HB1 hw1 hz
      go_wp2_with fail
      refine (l3Write_any b2 B X1 X2 n x _ GD.out.n (by omega) hn (fun y hy => (HX2.out y hy).2) H2.out).mono ?_
      rintro e w3 ⟨b3, R, rfl, hwr⟩
      have hle := logged_le hwr.l
      have hn3 := hwr.n8
      have HWR : Hid (Wrote X1 X2 w2 w3 b3 B R n x) := hwr
      have r3 := HR0.out.mod hwr.mod (fun e => by have := HX2.out _ e; have := HZ.out; omega)
      obtain ⟨t0, t1⟩ := get2 r3
      have f0 := r3.frozen 0
      have f1 := r3.frozen 1
      have HF : Hid _ := wrote_out (w := w) (z := w.heap.size + 1) hwr.own (by omega) (fun y hy => by
        have hz := HZ.out
        have hs := HW2.out.size
        have hs3 := hwr.mod.size
        have hr3 := HR0.out.lt
        rcases hy with hy | hy
        · have := HX2.out y (Or.inl hy); omega
        · rcases hy.1 with h | h
          · have := HX2.out y (Or.inr h); omega
          · exact ⟨by omega, hy.2, by omega⟩) (by omega) (Mod.blw HW2.out hwr.mod (fun y hy => by have := HX2.out y hy; have := HZ.out; omega)) (out := wcOut B n x) (Or.inl ⟨⟨GD.out, PP.out.1, PP.out.2⟩, rfl, hwr.n8, by rw [Int.toNat_natCast]; exact hwr.c, by rw [Int.toNat_natCast]; exact hwr.l⟩)
      clear hwr r3 H2 HW2 HR0 HX2 hle hn3
      go_wp2
      exact bodyPost_ret (v := .tuple #[b3.val R, .bool true]) (by simp [results, Try.results31, go_sem, t0, t1, BV.val]) rfl HF.out
end Go.Proofs.Ytagjfkkjmgfoiaa
