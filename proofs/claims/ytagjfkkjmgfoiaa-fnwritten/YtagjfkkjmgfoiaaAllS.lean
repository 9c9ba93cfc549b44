/- WriteAll of the model. -/
import Derived.Test.YtagjfkkjmgfoiaaSpecA
namespace Go.Proofs.Ytagjfkkjmgfoiaa
open Go.RowKit
set_option linter.unusedSimpArgs false
set_option linter.unusedVariables false
/-- The book behind j writes. -/
def WA (B : BD) (f g : Nat → Int) : Nat → BD → Prop
  | 0, R => R = B
  | j + 1, R => ∃ S, WA B f g j S ∧ R.n = 8 ∧ R.c = upd S.c (f j).toNat (g j) ∧ logged S.k S.lc S.lw (f j) (S.c (f j).toNat) R.k R.lc R.lw
theorem WA_same {B : BD} {f g : Nat → Int} : ∀ (j : Nat) {R R' : BD}, WA B f g j R → WA B f g j R' → R = R'
  | 0, _, _, h, h' => h.trans h'.symm
  | j + 1, R, R', ⟨S, h1, h2, h3, h4⟩, ⟨S', h1', h2', h3', h4'⟩ => by
    obtain rfl := WA_same j h1 h1'
    obtain ⟨e1, e2, e3⟩ := logged_same h4 h4'
    exact BD.ext' (h2.trans h2'.symm) (h3.trans h3'.symm) e1 e2 e3
theorem WA_le {B : BD} {f g : Nat → Int} : ∀ (j : Nat) {R : BD}, WA B f g j R → R.k ≤ B.k + j
  | 0, _, h => by rw [h]; omega
  | j + 1, R, ⟨S, h1, _, _, h4⟩ => by
    have := WA_le j h1
    have := logged_le h4
    omega
theorem WA_n {B : BD} {f g : Nat → Int} (hB : B.n = 8) : ∀ (j : Nat) {R : BD}, WA B f g j R → R.n = 8
  | 0, _, h => by rw [h]; exact hB
  | j + 1, R, ⟨S, h1, h2, _, _⟩ => h2
def okAll (B : BD) (m : Nat) (f g : Nat → Int) : Prop := B.Good ∧ m ≤ 20 ∧ ∀ i, i < m → cellOK (f i) ∧ wordOK (g i)
def waOut (B : BD) (m : Nat) (f g : Nat → Int) (R : BD) (r : Bool) : Prop := (okAll B m f g ∧ r = true ∧ WA B f g m R) ∨ (¬ okAll B m f g ∧ r = false ∧ R = BD.zero)
theorem waOut_same {B : BD} {m : Nat} {f g : Nat → Int} {R R' : BD} {r r' : Bool} (h : waOut B m f g R r) (h' : waOut B m f g R' r') : R = R' ∧ r = r' := by
  rcases h with ⟨g1, rfl, h1⟩ | ⟨g1, rfl, rfl⟩ <;> rcases h' with ⟨g2, rfl, h2⟩ | ⟨g2, rfl, rfl⟩
  · exact ⟨WA_same m h1 h2, rfl⟩
  · exact absurd g1 g2
  · exact absurd g2 g1
  · exact ⟨rfl, rfl⟩
/-- What stands in the model's WriteAll behind j pairs. z: the answer's box, o: the book's. -/
structure Wall (Y : Nat → Prop) (w wr : World) (o : Nat) (ao : Option Addr) (B : BD) (m : Nat) (f g : Nat → Int) (j : Nat) : Prop where
  blw : Blw w wr
  und : UndosAt Y wr ao m f g
  out : Row wr (w.heap.size + 1) 2 (fun i => if i = 0 then .slice none 0 0 else .slice none 0 0)
  ok : ∀ t, t < j → cellOK (f t) ∧ wordOK (g t)
  ol : w.heap.size + 1 < o ∧ o < wr.heap.size
  ex : ∃ (b : BV) (S : BD) (X1 X2 : Nat → Prop), WA B f g j S ∧ OwnB X1 X2 wr b S ∧ (∀ x, X1 x ∨ X2 x → w.heap.size + 1 < x ∧ x < wr.heap.size ∧ x ≠ o) ∧ Row wr o 2 (fun i => if i = 0 then .slice b.a1 S.n b.c1 else .slice b.a2 S.k b.c2)
theorem Wall.blw' {Y : Nat → Prop} {w wr w' : World} {o : Nat} {ao : Option Addr} {B : BD} {m : Nat} {f g : Nat → Int} {j : Nat} (h : Wall Y w wr o ao B m f g j) (hb : Blw wr w') : Wall Y w w' o ao B m f g j := by
  obtain ⟨b, S, X1, X2, h1, h2, h3, h4⟩ := h.ex
  have hs := hb.size
  have ho := h.ol
  exact ⟨h.blw.trans hb, h.und.blw hb, h.out.blw hb, h.ok, by omega, b, S, X1, X2, h1, h2.blw hb, fun x hx => by have := h3 x hx; omega, h4.blw hb⟩
theorem Wall.step {Y : Nat → Prop} {w wr w2 : World} {o : Nat} {ao : Option Addr} {B : BD} {m : Nat} {f g : Nat → Int} {j n : Nat} (hY : ∀ b, Y b → b < w.heap.size) (hj : f j = n) (hok : cellOK (f j) ∧ wordOK (g j)) (h : Wall Y w wr o ao B m f g j) {b b2 : BV} {S R : BD} {X1 X2 : Nat → Prop} (h1 : WA B f g j S) (h3 : ∀ x, X1 x ∨ X2 x → w.heap.size + 1 < x ∧ x < wr.heap.size ∧ x ≠ o)
    (h4 : Row wr o 2 (fun i => if i = 0 then .slice b.a1 S.n b.c1 else .slice b.a2 S.k b.c2)) (hw : Wrote X1 X2 wr w2 b2 S R n (g j)) :
    Wall Y w ((w2.setCell ⟨o, 0, none⟩ (.slice b2.a1 R.n b2.c1)).setCell ⟨o, 1, none⟩ (.slice b2.a2 R.k b2.c2)) o ao B m f g (j + 1) := by
  have ho := h.ol
  have hm := set2_mod (X := fun x => x = o) w2 rfl (.slice b2.a1 R.n b2.c1) (.slice b2.a2 R.k b2.c2)
  have hs := hm.size
  have hs2 := hw.mod.size
  have ha : w.heap.size ≤ wr.heap.size := h.blw.size
  have hx : ∀ x, X1 x ∨ X2 x → ¬ Y x := fun x hx hy => by have := hY x hy; have := h3 x hx; omega
  refine ⟨Mod.blw (Mod.blw h.blw hw.mod (fun x hx => by have := h3 x hx; omega)) hm (fun i hi => by omega), (h.und.mod hw.mod (fun x hy hx' => hx x hx' hy)).mod hm (fun x hy e => by have := hY x hy; omega), (h.out.mod hw.mod (fun e => by have := h3 _ e; omega)).mod hm (by omega), fun t ht => ?_, by omega, b2, R, X1, _, ⟨S, h1, hw.n8, by rw [hj, Int.toNat_natCast]; exact hw.c, by rw [hj, Int.toNat_natCast]; exact hw.l⟩, hw.own.mod hm (fun x hx e => by have := h3 x (Or.inl hx); omega) (fun x hx e => ?_), fun x hx => ?_, ?_⟩
  · by_cases e : t = j
    · subst e; exact hok
    · exact h.ok t (by omega)
  · rcases hx.1 with h5 | h5
    · have := h3 x (Or.inr h5); omega
    · omega
  · rcases hx with hx | hx
    · have := h3 x (Or.inl hx); omega
    · rcases hx.1 with h5 | h5
      · have := h3 x (Or.inr h5); omega
      · exact ⟨by omega, by have := hx.2; omega, by omega⟩
  · refine (((h4.mod hw.mod (fun e => by have := h3 _ e; omega)).set 0 _).set 1 _).congr (fun i hi => ?_)
    match i, hi with
    | 0, _ => rfl
    | 1, _ => rfl
theorem l3Write_at (b : BV) (B : BD) (X1 X2 : Nat → Prop) (n : Nat) (k x : Int) (w : World) (hkn : k = n) (hn8 : B.n = 8) (hk : B.k ≤ 100) (hn : n < 8) (hX : ∀ y, X1 y ∨ X2 y → y < w.heap.size) (h : OwnB X1 X2 w b B) :
    Calls Try.prog 62 #[b.val B, .int .i64 k, .int .i64 x] w fun e w' => ∃ b' R, e = .returned (b'.val R) ∧ Wrote X1 X2 w w' b' B R n x := by
  subst hkn
  exact l3Write_any b B X1 X2 n x w hn8 hk hn hX h
set_option maxHeartbeats 3200000 in
theorem specAll_any (b : BV) (B : BD) (ao : Option Addr) (m cm : Nat) (f g : Nat → Int) (Y : Nat → Prop) (w : World) (hS : B.n + B.k ≤ 1048576) (h : BookAt Y w b B) (hu : UndosAt Y w ao m f g) (hY : ∀ b, Y b → b < w.heap.size) :
    Calls Try.prog 15 #[b.val B, .slice ao m cm] w (GivesB (waOut B m f g) w) := by
  have hb0 : Blw w ((w.alloc (.cells #[.slice b.a1 B.n b.c1, .slice b.a2 B.k b.c2] 26)).alloc (.cells z2 26)) := ((Blw.refl _).alloc _).alloc _
  have HB : Hid (BookAt Y ((w.alloc (.cells #[.slice b.a1 B.n b.c1, .slice b.a2 B.k b.c2] 26)).alloc (.cells z2 26)) b B) := h.blw hb0
  have HU : Hid (UndosAt Y w ao m f g) := hu
  have hm63 := hu.1
  have rA := (box2 w (.slice b.a1 B.n b.c1) (.slice b.a2 B.k b.c2) 26).blw ((Blw.refl _).alloc (.cells z2 26))
  have r0 : Row ((w.alloc (.cells #[.slice b.a1 B.n b.c1, .slice b.a2 B.k b.c2] 26)).alloc (.cells z2 26)) (w.heap.size + 1) 2 (fun i => if i = 0 then .slice none 0 0 else .slice none 0 0) := by
    have := box2 (w.alloc (.cells #[.slice b.a1 B.n b.c1, .slice b.a2 B.k b.c2] 26)) (.slice none 0 0) (.slice none 0 0) 26
    rw [World.size_alloc] at this
    exact this
  clear h hu
  go_enter Try.func15, Try.ntmps15
  go_wp2_with fail
  refine (specGood_any b B Y _ HB.out (fun x hx => by have := hY x hx; simp; omega)).mono ?_
  rintro e w1 ⟨r, rfl, hr, hb1⟩
  replace r0 := r0.blw hb1
  replace rA := rA.blw hb1
  have HB1 : Hid (BookAt Y w1 b B) := HB.out.blw hb1
  have hw1 : Blw w w1 := hb0.trans hb1
  have HR : Hid (r = true ↔ B.Good) := hr
  clear hb0 hb1 HB hr
  cases r
  · have NG : Hid (¬ B.Good) := fun g => absurd (HR.out.2 g) (by decide)
    obtain ⟨p0, p1⟩ := get2 r0
    have f0 := r0.frozen 0
    have f1 := r0.frozen 1
    clear r0 rA HR HB1
    go_wp2
    exact bodyPost_ret (v := .tuple #[BV.zero.val BD.zero, .bool false]) (by simp [results, Try.results15, go_sem, p0, p1, BV.val]) rfl (zero_fin (Nat.le_succ _) hw1 (Or.inr ⟨fun g => NG.out g.1, rfl, rfl⟩))
  · have GD : Hid B.Good := HR.out.1 rfl
    have hk8 := GD.out.k8
    clear HR
    by_cases hm : m ≤ 20
    · have hm' : ¬ (20 : Int) < m := by omega
      obtain ⟨p0, p1⟩ := get2 rA
      clear rA
      go_wp2_with fail
      clear p0 p1
      refine (l3Own_any b B Y _ hS HB1.out).mono ?_
      rintro e w2 ⟨b2, rfl, X1, X2, own2, hX2, hb2⟩
      have hz := r0.lt
      have hs2 := hb2.size
      have hA : Blw w2 (w2.alloc (.cells #[.slice b2.a1 B.n b2.c1, .slice b2.a2 B.k b2.c2] 26)) := (Blw.refl _).alloc _
      have H0 : Hid (Wall Y w (w2.alloc (.cells #[.slice b2.a1 B.n b2.c1, .slice b2.a2 B.k b2.c2] 26)) w2.heap.size ao B m f g 0) := ⟨(hw1.trans hb2).trans hA, HU.out.blw ((hw1.trans hb2).trans hA), (r0.blw hb2).blw hA, fun t ht => absurd ht (Nat.not_lt_zero _), ⟨by omega, by simp⟩, b2, B, X1, X2, rfl, own2.blw hA, fun x hx => by have := hX2 x hx; simp; omega, box2 w2 _ _ 26⟩
      clear own2 hX2 hb2 r0 HB1 hw1 hz hA HU hs2
      go_wp2_with fail
      revert H0
      generalize w2.alloc (.cells #[.slice b2.a1 B.n b2.c1, .slice b2.a2 B.k b2.c2] 26) = w3
      intro H0
      go_loopw [22] (fun i wr => ∃ j : Nat, j ≤ m ∧ i = .int .i64 j ∧ Wall Y w wr w2.heap.size ao B m f g j) (fun i _ => m - (intOf i).toNat)
      case atStart => exact ⟨0, by omega, rfl, H0.out⟩
      case round =>
        obtain ⟨j, hj, rfl, hd⟩ := hrel
        clear H0
        have HD : Hid (Wall Y w wr w2.heap.size ao B m f g j) := hd
        clear hd
        by_cases hlt : j < m
        · have hlt' : (j : Int) < m := by omega
          obtain ⟨bu, ou, eu, -, q0, q1⟩ := HD.out.und.2 j hlt
          subst eu
          have HA : Hid (Wall Y w (wr.alloc (.cells #[.int .i64 (f j), .int .i64 (g j)] 69)) w2.heap.size _ B m f g j) := HD.out.blw' ((Blw.refl _).alloc _)
          obtain ⟨q2, q3⟩ := get2 (box2 wr (.int .i64 (f j)) (.int .i64 (g j)) 69)
          have hwr : wr.heap.size < (wr.alloc (.cells #[.int .i64 (f j), .int .i64 (g j)] 69)).heap.size := by simp
          clear HD
          go_wp2_with fail
          clear q0 q1
          refine (l3Pair_any (f j) (g j) _).mono ?_
          rintro e w' ⟨r, rfl, hr, rfl⟩
          have HR : Hid (r = true ↔ cellOK (f j) ∧ wordOK (g j)) := hr
          clear hr
          cases r
          · have NP : Hid (¬ (cellOK (f j) ∧ wordOK (g j))) := fun g => absurd (HR.out.2 g) (by decide)
            have r0 := HA.out.out
            obtain ⟨p0, p1⟩ := get2 r0
            have f0 := r0.frozen 0
            have f1 := r0.frozen 1
            have HW : Hid (Blw w _) := HA.out.blw
            clear r0 HR HA q2 q3 hwr
            go_wp2
            exact bodyPost_ret (v := .tuple #[BV.zero.val BD.zero, .bool false]) (by simp [results, Try.results15, go_sem, p0, p1, BV.val]) rfl (zero_fin (Nat.le_succ _) HW.out (Or.inr ⟨fun g => NP.out (g.2.2 j hlt), rfl, rfl⟩))
          · have PP : Hid (cellOK (f j) ∧ wordOK (g j)) := HR.out.1 rfl
            obtain ⟨n, hn, en⟩ : ∃ n : Nat, n < 8 ∧ f j = n := ⟨(f j).toNat, by have := PP.out.1; unfold cellOK at this; omega, by have := PP.out.1; unfold cellOK at this; omega⟩
            obtain ⟨b4, S, Z1, Z2, hwa, hown, hZ, hbox⟩ := HA.out.ex
            obtain ⟨p0, p1⟩ := get2 hbox
            have hSk := WA_le j hwa
            have HSN : Hid (S.n = 8) := WA_n GD.out.n j hwa
            have HWA : Hid (WA B f g j S) := hwa
            have HOWN : Hid (OwnB Z1 Z2 _ b4 S) := hown
            have HZ : Hid (∀ x, Z1 x ∨ Z2 x → w.heap.size + 1 < x ∧ x < (wr.alloc (.cells #[.int .i64 (f j), .int .i64 (g j)] 69)).heap.size ∧ x ≠ w2.heap.size) := hZ
            have HBX : Hid (Row (wr.alloc (.cells #[.int .i64 (f j), .int .i64 (g j)] 69)) w2.heap.size 2 (fun i => if i = 0 then .slice b4.a1 S.n b4.c1 else .slice b4.a2 S.k b4.c2)) := hbox
            have EN : Hid (f j = n) := en
            clear hwa hown hZ hbox HR en
            go_wp2_with fail
            clear p0 p1 q2 q3
            refine (l3Write_at b4 S Z1 Z2 n (f j) (g j) _ EN.out HSN.out (by omega) hn (fun y hy => (HZ.out y hy).2.1) HOWN.out).mono ?_
            rintro e w5 ⟨b5, R, rfl, hwr5⟩
            have HN : Hid _ := HA.out.step hY EN.out PP.out HWA.out HZ.out HBX.out hwr5
            have r5 := HBX.out.mod hwr5.mod (fun e => by have := HZ.out _ e; omega)
            obtain ⟨p0, p1⟩ := get2 r5
            have f0 := r5.frozen 0
            have f1 := r5.frozen 1
            clear hwr5 r5 HWA HOWN HZ HBX HA hwr hSk
            go_wp2
            go_roundw
            case rel => exact ⟨j + 1, by omega, by go_num, HN.out⟩
            case measure => simp [intOf]; omega
        · obtain rfl : j = m := by omega
          obtain ⟨b4, S, Z1, Z2, hwa, hown, hZ, hbox⟩ := HD.out.ex
          obtain ⟨p0, p1⟩ := get2 hbox
          have r0 := HD.out.out
          obtain ⟨t0, t1⟩ := get2 r0
          have f0 := r0.frozen 0
          have f1 := r0.frozen 1
          have hSk := WA_le j hwa
          have hSn := WA_n GD.out.n j hwa
          have HF : Hid _ := wrote_out (w := w) (z := w.heap.size + 1) hown (by omega) (fun x hx => by have := hZ x hx; omega) (by omega) HD.out.blw (out := waOut B j f g) (Or.inl ⟨⟨GD.out, hm, HD.out.ok⟩, rfl, hwa⟩)
          clear hwa hown hZ hbox r0 HD hSk hSn
          go_wp2
          exact bodyPost_ret (v := .tuple #[b4.val S, .bool true]) (by simp [results, Try.results15, go_sem, t0, t1, BV.val]) rfl HF.out
    · have hm' : (20 : Int) < m := by omega
      obtain ⟨p0, p1⟩ := get2 r0
      have f0 := r0.frozen 0
      have f1 := r0.frozen 1
      clear r0 rA HB1
      go_wp2
      exact bodyPost_ret (v := .tuple #[BV.zero.val BD.zero, .bool false]) (by simp [results, Try.results15, go_sem, p0, p1, BV.val]) rfl (zero_fin (Nat.le_succ _) hw1 (Or.inr ⟨fun g => hm g.2.1, rfl, rfl⟩))
end Go.Proofs.Ytagjfkkjmgfoiaa
