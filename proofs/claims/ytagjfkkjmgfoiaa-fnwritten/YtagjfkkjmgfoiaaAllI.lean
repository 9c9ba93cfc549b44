/- WriteAll of the program. -/
import Derived.Test.YtagjfkkjmgfoiaaAllS
namespace Go.Proofs.Ytagjfkkjmgfoiaa
open Go.RowKit
set_option linter.unusedSimpArgs false
set_option linter.unusedVariables false
theorem logged_distinct {k : Nat} {lc lw : Nat → Int} {x y : Int} {k' : Nat} {lc' lw' : Nat → Int} (h : logged k lc lw x y k' lc' lw') (hd : distinct k lc) : distinct k' lc' := by
  rcases h with ⟨-, rfl, rfl, rfl⟩ | ⟨g, rfl, rfl, rfl⟩
  · exact hd
  · intro p q hp hq e
    simp only [snoc] at e
    by_cases e1 : p = k
    · by_cases e2 : q = k
      · omega
      · simp only [e1, e2, if_true, if_false] at e
        exact absurd e.symm (g q (by omega))
    · by_cases e2 : q = k
      · simp only [e1, e2, if_true, if_false] at e
        exact absurd e (g p (by omega))
      · simp only [e1, e2, if_false] at e
        exact hd p q (by omega) (by omega) e
theorem WA_distinct {B : BD} {f g : Nat → Int} (hd : distinct B.k B.lc) : ∀ (j : Nat) {R : BD}, WA B f g j R → distinct R.k R.lc
  | 0, _, h => by rw [h]; exact hd
  | j + 1, R, ⟨S, h1, _, _, h4⟩ => logged_distinct h4 (WA_distinct hd j h1)
/-- What stands in the program's WriteAll behind j pairs. -/
structure Iall (Y : Nat → Prop) (w wr : World) (H bm : Nat) (ao : Option Addr) (B : BD) (m : Nat) (f g : Nat → Int) (j : Nat) : Prop where
  blw : Blw w wr
  und : UndosAt Y wr ao m f g
  out : Row wr (w.heap.size + 1) 2 (fun i => if i = 0 then .slice none 0 0 else .slice none 0 0)
  ok : ∀ t, t < j → cellOK (f t) ∧ wordOK (g t)
  lo : w.heap.size + 1 < H ∧ w.heap.size + 1 < bm
  ex : ∃ S, WA B f g j S ∧ Held wr H bm S.c S.k S.lc S.lw
theorem Iall.blw' {Y : Nat → Prop} {w wr w' : World} {H bm : Nat} {ao : Option Addr} {B : BD} {m : Nat} {f g : Nat → Int} {j : Nat} (h : Iall Y w wr H bm ao B m f g j) (hb : Blw wr w') : Iall Y w w' H bm ao B m f g j := by
  obtain ⟨S, h1, h2⟩ := h.ex
  exact ⟨h.blw.trans hb, h.und.blw hb, h.out.blw hb, h.ok, h.lo, S, h1, h2.blw hb⟩
theorem Iall.step {Y : Nat → Prop} {w wr w2 : World} {H bm : Nat} {ao : Option Addr} {B : BD} {m : Nat} {f g : Nat → Int} {j n : Nat} (hY : ∀ b, Y b → b < w.heap.size) (hj : f j = n) (hok : cellOK (f j) ∧ wordOK (g j)) (h : Iall Y w wr H bm ao B m f g j) {S : BD} {k' : Nat} {lc' lw' : Nat → Int} (h1 : WA B f g j S)
    (hl : logged S.k S.lc S.lw n (S.c n) k' lc' lw') (hh : Held w2 H bm (upd S.c n (g j)) k' lc' lw') (hm : Mod (fun b => b = bm ∨ b = H) wr w2) : Iall Y w w2 H bm ao B m f g (j + 1) := by
  have lo := h.lo
  refine ⟨Mod.blw h.blw hm (fun i hi => by omega), h.und.mod hm (fun x hy e => by have := hY x hy; omega), h.out.mod hm (by omega), fun t ht => ?_, lo, ⟨8, upd S.c n (g j), k', lc', lw'⟩, ⟨S, h1, rfl, by rw [hj, Int.toNat_natCast], by rw [hj, Int.toNat_natCast]; exact hl⟩, hh⟩
  by_cases e : t = j
  · subst e; exact hok
  · exact h.ok t (by omega)
theorem write_at (H bm k : Nat) (c lc lw : Nat → Int) (n : Nat) (i x : Int) (w : World) (hi : i = n) (hk : k ≤ 9223372036854775806) (hn : n < 8) (hd : distinct k lc) (h : Held w H bm c k lc lw) :
    Calls Try.prog 58 #[.pointer (some ⟨H, 0, none⟩), .int .i64 i, .int .i64 x] w fun e w' => ∃ k' lc' lw', e = .returned (.tuple #[]) ∧ logged k lc lw n (c n) k' lc' lw' ∧ Held w' H bm (upd c n x) k' lc' lw' ∧ Mod (fun b => b = bm ∨ b = H) w w' := by
  subst hi
  exact write_any H bm k c lc lw n x w hk hn hd h
set_option maxHeartbeats 3200000 in
theorem implAll_any (b : BV) (B : BD) (ao : Option Addr) (m cm : Nat) (f g : Nat → Int) (Y : Nat → Prop) (w : World) (h : BookAt Y w b B) (hu : UndosAt Y w ao m f g) (hY : ∀ b, Y b → b < w.heap.size) :
    Calls Try.prog 14 #[b.val B, .slice ao m cm] w (GivesB (waOut B m f g) w) := by
  have hb0 : Blw w ((w.alloc (.cells #[.slice b.a1 B.n b.c1, .slice b.a2 B.k b.c2] 26)).alloc (.cells z2 26)) := ((Blw.refl _).alloc _).alloc _
  have HB : Hid (BookAt Y ((w.alloc (.cells #[.slice b.a1 B.n b.c1, .slice b.a2 B.k b.c2] 26)).alloc (.cells z2 26)) b B) := h.blw hb0
  have HU : Hid (UndosAt Y w ao m f g) := hu
  have hm63 := hu.1
  have r0 : Row ((w.alloc (.cells #[.slice b.a1 B.n b.c1, .slice b.a2 B.k b.c2] 26)).alloc (.cells z2 26)) (w.heap.size + 1) 2 (fun i => if i = 0 then .slice none 0 0 else .slice none 0 0) := by
    have := box2 (w.alloc (.cells #[.slice b.a1 B.n b.c1, .slice b.a2 B.k b.c2] 26)) (.slice none 0 0) (.slice none 0 0) 26
    rw [World.size_alloc] at this
    exact this
  clear h hu
  go_enter Try.func14, Try.ntmps14
  go_wp2_with fail
  refine (hold_any b B Y _ HB.out (fun x hx => by have := hY x hx; simp; omega)).mono ?_
  rintro e w1 ⟨h1, hb1⟩
  replace r0 := r0.blw hb1
  replace hb1 := hb0.trans hb1
  clear hb0 HB
  rcases h1 with ⟨bm, hg, rfl, hl, hbm⟩ | ⟨hg, rfl⟩
  · have GD : Hid B.Good := hg
    have hk8 := hg.k8
    have hA : Blw w1 (w1.alloc (.cells (nine B.c (some bm)) 73)) := (Blw.refl _).alloc _
    have hz := r0.lt
    have H0 : Hid (Iall Y w (w1.alloc (.cells (nine B.c (some bm)) 73)) w1.heap.size bm ao B m f g 0) := ⟨hb1.trans hA, HU.out.blw (hb1.trans hA), r0.blw hA, fun t ht => absurd ht (Nat.not_lt_zero _), ⟨hz, by simp at hbm; omega⟩, B, rfl, held_boxed hl⟩
    have HR : Hid (Row (w1.alloc (.cells (nine B.c (some bm)) 73)) (w.heap.size + 1) 2 (fun i => if i = 0 then .slice none 0 0 else .slice none 0 0)) := r0.blw hA
    have HW : Hid (Blw w (w1.alloc (.cells (nine B.c (some bm)) 73))) := hb1.trans hA
    clear hg hl hbm r0 hb1 hA hz HU
    by_cases hm : m ≤ 20
    · have hm' : ¬ (20 : Int) < m := by omega
      clear HR HW
      go_wp2_with fail
      revert H0
      generalize w1.alloc (.cells (nine B.c (some bm)) 73) = w3
      intro H0
      go_loopw [25] (fun i wr => ∃ j : Nat, j ≤ m ∧ i = .int .i64 j ∧ Iall Y w wr w1.heap.size bm ao B m f g j) (fun i _ => m - (intOf i).toNat)
      case atStart => exact ⟨0, by omega, rfl, H0.out⟩
      case round =>
        obtain ⟨j, hj, rfl, hd⟩ := hrel
        clear H0
        have HD : Hid (Iall Y w wr w1.heap.size bm ao B m f g j) := hd
        clear hd
        by_cases hlt : j < m
        · have hlt' : (j : Int) < m := by omega
          obtain ⟨bu, ou, eu, -, q0, q1⟩ := HD.out.und.2 j hlt
          subst eu
          have HA : Hid (Iall Y w (wr.alloc (.cells #[.int .i64 (f j), .int .i64 (g j)] 69)) w1.heap.size bm _ B m f g j) := HD.out.blw' ((Blw.refl _).alloc _)
          obtain ⟨q2, q3⟩ := get2 (box2 wr (.int .i64 (f j)) (.int .i64 (g j)) 69)
          clear HD
          by_cases ok1 : cellOK (f j)
          · have OK1 : Hid (cellOK (f j)) := ok1
            clear ok1
            go_wp2_with fail
            clear q0 q1
            refine (isCell_yes _ _ OK1.out).mono ?_
            rintro e w' ⟨rfl, rfl⟩
            by_cases ok2 : wordOK (g j)
            · have OK2 : Hid (wordOK (g j)) := ok2
              clear ok2
              go_wp2_with fail
              refine (isWord_yes _ _ OK2.out).mono ?_
              rintro e w' ⟨rfl, rfl⟩
              obtain ⟨n, hn, en⟩ : ∃ n : Nat, n < 8 ∧ f j = n := ⟨(f j).toNat, by have := OK1.out; unfold cellOK at this; omega, by have := OK1.out; unfold cellOK at this; omega⟩
              obtain ⟨S, hwa, hheld⟩ := HA.out.ex
              have hSk := WA_le j hwa
              have HWA : Hid (WA B f g j S) := hwa
              have HHL : Hid (Held _ w1.heap.size bm S.c S.k S.lc S.lw) := hheld
              have EN : Hid (f j = n) := en
              clear hwa hheld en
              go_wp2_with fail
              clear q2 q3
              refine (write_at w1.heap.size bm S.k S.c S.lc S.lw n (f j) (g j) _ EN.out (by omega) hn (WA_distinct GD.out.d j HWA.out) HHL.out).mono ?_
              rintro e w5 ⟨k', lc', lw', rfl, hlg, hh5, hm5⟩
              have HN : Hid _ := HA.out.step hY EN.out ⟨OK1.out, OK2.out⟩ HWA.out hlg hh5 hm5
              clear hlg hh5 hm5 HWA HHL HA hSk
              go_wp2
              go_roundw
              case rel => exact ⟨j + 1, by omega, by go_num, HN.out⟩
              case measure => simp [intOf]; omega
            · have OK2 : Hid (¬ wordOK (g j)) := ok2
              clear ok2
              go_wp2_with fail
              clear q2 q3
              refine (isWord_no _ _ OK2.out).mono ?_
              rintro e w' ⟨rfl, rfl⟩
              have r0 := HA.out.out
              obtain ⟨p0, p1⟩ := get2 r0
              have f0 := r0.frozen 0
              have f1 := r0.frozen 1
              have HW : Hid (Blw w _) := HA.out.blw
              clear r0 HA
              go_wp2
              exact bodyPost_ret (v := .tuple #[BV.zero.val BD.zero, .bool false]) (by simp [results, Try.results14, go_sem, p0, p1, BV.val]) rfl (zero_fin (Nat.le_succ _) HW.out (Or.inr ⟨fun g => OK2.out (g.2.2 j hlt).2, rfl, rfl⟩))
          · have OK1 : Hid (¬ cellOK (f j)) := ok1
            clear ok1
            go_wp2_with fail
            clear q0 q1 q2 q3
            refine (isCell_no _ _ OK1.out).mono ?_
            rintro e w' ⟨rfl, rfl⟩
            have r0 := HA.out.out
            obtain ⟨p0, p1⟩ := get2 r0
            have f0 := r0.frozen 0
            have f1 := r0.frozen 1
            have HW : Hid (Blw w _) := HA.out.blw
            clear r0 HA
            go_wp2
            exact bodyPost_ret (v := .tuple #[BV.zero.val BD.zero, .bool false]) (by simp [results, Try.results14, go_sem, p0, p1, BV.val]) rfl (zero_fin (Nat.le_succ _) HW.out (Or.inr ⟨fun g => OK1.out (g.2.2 j hlt).1, rfl, rfl⟩))
        · obtain rfl : j = m := by omega
          obtain ⟨S, hwa, hheld⟩ := HD.out.ex
          have hSk := WA_le j hwa
          have HSN : Hid (S.n = 8) := WA_n GD.out.n j hwa
          have HWA : Hid (WA B f g j S) := hwa
          have HHL : Hid (Held wr w1.heap.size bm S.c S.k S.lc S.lw) := hheld
          have HR : Hid (Row wr (w.heap.size + 1) 2 (fun i => if i = 0 then .slice none 0 0 else .slice none 0 0)) := HD.out.out
          have HW : Hid (Blw w wr) := HD.out.blw
          have HOK : Hid (∀ t, t < j → cellOK (f t) ∧ wordOK (g t)) := HD.out.ok
          clear hwa hheld HD
          go_wp2_with fail
          refine (give_any w1.heap.size bm S.k S.k S.c S.lc S.lw _ (by omega) (by omega) HHL.out.box HHL.out.log.ix).mono ?_
          rintro e w3 ⟨b3, rfl, own, hb3⟩
          have R3 := HR.out.blw hb3
          obtain ⟨p0, p1⟩ := get2 R3
          have f0 := R3.frozen 0
          have f1 := R3.frozen 1
          have HO : Hid (BookOwn (fun x => w.heap.size + 1 < x ∧ x < w3.heap.size) w3 b3 ⟨8, S.c, S.k, S.lc, S.lw⟩) := own.mono (fun x hx => by have := HR.out.lt; omega)
          have HB3 : Hid (Blw w w3) := HW.out.trans hb3
          clear HR HW HHL own hb3 R3
          go_wp2
          refine bodyPost_ret (v := .tuple #[b3.val ⟨8, S.c, S.k, S.lc, S.lw⟩, .bool true]) (by simp [results, Try.results14, go_sem, p0, p1, BV.val]) rfl ?_
          have hm2 := set2_mod (X := fun x => x = w.heap.size + 1) w3 rfl (.slice b3.a1 8 b3.c1) (.slice b3.a2 S.k b3.c2)
          have hs := hm2.size
          have eS : (⟨8, S.c, S.k, S.lc, S.lw⟩ : BD) = S := BD.ext' HSN.out.symm rfl rfl rfl rfl
          exact ⟨b3, ⟨8, S.c, S.k, S.lc, S.lw⟩, true, rfl, Or.inl ⟨⟨GD.out, hm, HOK.out⟩, rfl, by rw [eS]; exact HWA.out⟩, by show (8 : Nat) + S.k ≤ _; omega, (HO.out.mod hm2 (fun x hx e => by omega)).mono (fun x hx => by omega), Mod.blw HB3.out hm2 (fun i hi => by omega)⟩
    · have hm' : (20 : Int) < m := by omega
      obtain ⟨p0, p1⟩ := get2 HR.out
      have f0 := HR.out.frozen 0
      have f1 := HR.out.frozen 1
      clear H0
      go_wp2
      exact bodyPost_ret (v := .tuple #[BV.zero.val BD.zero, .bool false]) (by simp [results, Try.results14, go_sem, p0, p1, BV.val]) rfl (zero_fin (Nat.le_succ _) HW.out (Or.inr ⟨fun g => hm g.2.1, rfl, rfl⟩))
  · have HG : Hid (¬ B.Good) := hg
    have hA : Blw w1 (w1.alloc (.cells (nine (fun _ => 0) none) 73)) := (Blw.refl _).alloc _
    replace r0 := r0.blw hA
    obtain ⟨p0, p1⟩ := get2 r0
    have f0 := r0.frozen 0
    have f1 := r0.frozen 1
    have HW : Hid (Blw w (w1.alloc (.cells (nine (fun _ => 0) none) 73))) := hb1.trans hA
    clear hg r0 hb1 hA
    go_wp2
    exact bodyPost_ret (v := .tuple #[BV.zero.val BD.zero, .bool false]) (by simp [results, Try.results14, go_sem, p0, p1, BV.val]) rfl (zero_fin (Nat.le_succ _) HW.out (Or.inr ⟨fun g => HG.out g.1, rfl, rfl⟩))
end Go.Proofs.Ytagjfkkjmgfoiaa
