/- The model's 'GoodBook'. -/
import Derived.Test.YtagjfkkjmgfoiaaBuf
import Derived.Test.YtagjfkkjmgfoiaaBookL
namespace Go.Proofs.Ytagjfkkjmgfoiaa
open Go.RowKit
set_option linter.unusedSimpArgs false
set_option linter.unusedVariables false
/-- What stands in the model's GoodBook behind j entries. -/
structure Seeing (Y : Nat → Prop) (w wr : World) (b : BV) (B : BD) (v : Value) (j : Nat) : Prop where
  blw : Blw w wr
  box : Row wr w.heap.size 2 (fun i => if i = 0 then .slice b.a1 B.n b.c1 else .slice b.a2 B.k b.c2)
  bk : BookAt Y wr b B
  buf : BufI (fun b => w.heap.size < b) wr v j B.lc
  ok : ∀ t, t < j → cellOK (B.lc t) ∧ wordOK (B.lw t)
  d : distinct j B.lc
theorem Seeing.le {Y : Nat → Prop} {w wr : World} {b : BV} {B : BD} {v : Value} {j : Nat} (h : Seeing Y w wr b B v j) : j ≤ 8 := pigeon 8 j B.lc (fun i hi => by have := (h.ok i hi).1; unfold cellOK at this; omega) h.d
theorem Seeing.blw' {Y : Nat → Prop} {w wr w' : World} {b : BV} {B : BD} {v : Value} {j : Nat} (h : Seeing Y w wr b B v j) (hb : Blw wr w') : Seeing Y w w' b B v j :=
  ⟨h.blw.trans hb, h.box.blw hb, h.bk.blw hb, Buf.blw h.buf hb, h.ok, h.d⟩
theorem Seeing.step {Y : Nat → Prop} {w wa w' : World} {b : BV} {B : BD} {v v' : Value} {j : Nat} {X : Nat → Prop} (h : Seeing Y w wa b B v j) (hY : ∀ b, Y b → b < w.heap.size) (ok : cellOK (B.lc j) ∧ wordOK (B.lw j)) (fr : ∀ t, t < j → B.lc t ≠ B.lc j)
    (hB : BufI X w' v' (j + 1) (icat j B.lc (fun _ => B.lc j))) (hX : ∀ b, X b → w.heap.size < b) (hm : Mod (fun b => v.ownBlock = some b) wa w') : Seeing Y w w' b B v' (j + 1) := by
  have hx : ∀ b, v.ownBlock = some b → w.heap.size < b := h.buf.2
  refine ⟨Mod.blw h.blw hm (fun i hi => Nat.le_of_lt (hx i hi)), h.box.mod hm (fun e => by have := hx _ e; omega), h.bk.mod hm (fun b hb e => by have := hY b hb; have := hx b e; omega), (Buf.congr hB (fun i hi => ?_)).mono hX, fun t ht => ?_, fun p q hp hq e => ?_⟩
  · by_cases e : i < j
    · simp [ic, icat, e]
    · obtain rfl : i = j := by omega
      simp [ic, icat]
  · by_cases e : t = j
    · subst e; exact ok
    · exact h.ok t (by omega)
  · by_cases e1 : p = j
    · by_cases e2 : q = j
      · omega
      · subst e1; exact absurd e.symm (fr q (by omega))
    · by_cases e2 : q = j
      · subst e2; exact absurd e (fr p (by omega))
      · exact h.d p q (by omega) (by omega) e
set_option maxRecDepth 20000 in
set_option maxHeartbeats 3200000 in
theorem specGood_any (b : BV) (B : BD) (Y : Nat → Prop) (w : World) (h : BookAt Y w b B) (hY : ∀ b, Y b → b < w.heap.size) :
    Calls Try.prog 18 #[b.val B] w fun e w' => ∃ r, e = .returned (.bool r) ∧ (r = true ↔ B.Good) ∧ Blw w w' := by
  have hk := h.l.1
  have hn := h.c.1
  have H0 : Hid (Seeing Y w (w.alloc (.cells #[.slice b.a1 B.n b.c1, .slice b.a2 B.k b.c2] 26)) b B (.slice none 0 0) 0) := ⟨(Blw.refl _).alloc _, box2 w _ _ 26, h.blw ((Blw.refl _).alloc _), Buf.nil _ _ _ _ _, fun t ht => absurd ht (Nat.not_lt_zero _), fun p q hp => absurd hp (Nat.not_lt_zero _)⟩
  clear h
  obtain ⟨n, c, k, lc, lw⟩ := B
  dsimp only at hk hn
  go_enter Try.func18, Try.ntmps18
  go_wp2_with fail
  go_loopw [3, 9] (fun v i wr => ∃ j : Nat, j ≤ k ∧ i = .int .i64 j ∧ Seeing Y w wr b ⟨n, c, k, lc, lw⟩ v j) (fun _ i _ => k - (intOf i).toNat)
  case atStart => exact ⟨0, by omega, rfl, H0.out⟩
  case round =>
    obtain ⟨j, hj, rfl, hd⟩ := hrel
    clear H0
    have h8 := hd.le
    have hbi : BufI _ wr _ j lc := hd.buf
    obtain ⟨ao, cap, rfl, -⟩ := hbi.own (by omega)
    have HD : Hid (Seeing Y w wr b ⟨n, c, k, lc, lw⟩ (.slice ao j cap) j) := hd
    clear hd hbi
    by_cases hlt : j < k
    · have hlt' : (j : Int) < k := by omega
      obtain ⟨b2, o2, e2, -, q0, q1⟩ := HD.out.bk.l.2 j hlt
      dsimp only at e2 q0 q1
      rw [e2]
      have HA : Hid (Seeing Y w (wr.alloc (.cells #[.int .i64 (lc j), .int .i64 (lw j)] 69)) b ⟨n, c, k, lc, lw⟩ (.slice ao j cap) j) := HD.out.blw' ((Blw.refl _).alloc _)
      obtain ⟨q2, q3⟩ := get2 (box2 wr (.int .i64 (lc j)) (.int .i64 (lw j)) 69)
      have HB : Hid (Blw w (wr.alloc (.cells #[.int .i64 (lc j), .int .i64 (lw j)] 69))) := HA.out.blw
      have hio : IntsOwn (fun b => w.heap.size < b) (wr.alloc (.cells #[.int .i64 (lc j), .int .i64 (lw j)] 69)) ao j lc := by
        obtain ⟨a', c', e, hh⟩ := BufI.own HA.out.buf (show j ≤ _ by omega)
        cases e
        exact hh
      have HI : Hid (IntsAt (fun b => w.heap.size < b) (wr.alloc (.cells #[.int .i64 (lc j), .int .i64 (lw j)] 69)) ao j lc) := hio.at
      have HAP : Hid (∃ ao' cap' w', (Builtin.append_ #[23, 23] 23 #[.slice ao j cap, .slice (some ⟨wr.heap.size + 1, 0, none⟩) 1 1]).run Try.prog ((wr.alloc (.cells #[.int .i64 (lc j), .int .i64 (lw j)] 69)).alloc (.cells #[.int .i64 (lc j)] 3)) = .ok (.slice ao' (j + 1) cap') w' ∧ BufI (fun b => (w.heap.size < b ∨ b = ((wr.alloc (.cells #[.int .i64 (lc j), .int .i64 (lw j)] 69)).alloc (.cells #[.int .i64 (lc j)] 3)).heap.size) ∧ b < w'.heap.size) w' (.slice ao' (j + 1) cap') (j + 1) (icat j lc (fun _ => lc j)) ∧ Mod (fun b => (Value.slice ao j cap).ownBlock = some b) ((wr.alloc (.cells #[.int .i64 (lc j), .int .i64 (lw j)] 69)).alloc (.cells #[.int .i64 (lc j)] 3)) w') := by
        have h1 := one_ints (wr.alloc (.cells #[.int .i64 (lc j), .int .i64 (lw j)] 69)) (lc j)
        rw [World.size_alloc] at h1
        exact BufI.append (Buf.blw HA.out.buf ((Blw.refl _).alloc _)) 1 h1 (by omega) 23
      clear HD hio e2
      by_cases ok1 : cellOK (lc j)
      · have OK1 : Hid (cellOK (lc j)) := ok1
        clear ok1
        go_wp2_with fail
        clear q0 q1
        refine (l1In_yes _ _ _ _ OK1.out.1 OK1.out.2).mono ?_
        rintro e w' ⟨rfl, rfl⟩
        by_cases ok2 : wordOK (lw j)
        · have OK2 : Hid (wordOK (lw j)) := ok2
          clear ok2
          go_wp2_with fail
          refine (l1In_yes _ _ _ _ OK2.out.1 OK2.out.2).mono ?_
          rintro e w' ⟨rfl, rfl⟩
          go_wp2_with fail
          refine (l1Has_any _ _ j lc _ _ _ HI.out).mono ?_
          rintro e w' ⟨r, rfl, hr, rfl⟩
          have HR : Hid (r = true ↔ hasLine j lc (lc j)) := hr
          clear hr
          cases r
          · have FR : Hid (∀ t, t < j → lc t ≠ lc j) := fun t ht e => by have := HR.out.2 ⟨t, ht, e⟩; cases this
            obtain ⟨ao', cap', w2, hrun, hB, hm⟩ := HAP.out
            have HS : Hid (Seeing Y w w2 b ⟨n, c, k, lc, lw⟩ (.slice ao' (j + 1) cap') (j + 1)) := (HA.out.blw' ((Blw.refl _).alloc _)).step hY ⟨OK1.out, OK2.out⟩ FR.out hB (fun x hx => by have := HA.out.blw.size; simp at this hx; omega) hm
            clear HA HAP hB hm HB HI HR
            have HRN : Hid _ := hrun
            clear hrun
            go_wp2_with (first | (at_builtin; refine wpList_append_run rfl (.tmp 29) (.tmp 32) 23 rfl _ _ rfl rfl HRN.out ?_) | go_in)
            go_wp2
            go_roundw
            case rel => exact ⟨j + 1, by omega, by go_num, HS.out⟩
            case measure => simp [intOf]; omega
          · have NF : Hid (hasLine j lc (lc j)) := HR.out.1 rfl
            clear HA HAP HI HR
            go_wp2
            go_ret
            refine ⟨false, rfl, ⟨fun e => (by cases e), fun g => ?_⟩, HB.out⟩
            obtain ⟨t, ht, e⟩ := NF.out
            have := g.d t j (by show t < k; omega) hlt e
            omega
        · have OK2 : Hid (¬ wordOK (lw j)) := ok2
          clear ok2
          go_wp2_with fail
          refine (l1In_no _ _ _ _ OK2.out).mono ?_
          rintro e w' ⟨rfl, rfl⟩
          clear HA HAP HI
          go_wp2
          go_ret
          exact ⟨false, rfl, ⟨fun e => (by cases e), fun g => absurd (g.l j hlt).2 OK2.out⟩, HB.out⟩
      · have OK1 : Hid (¬ cellOK (lc j)) := ok1
        clear ok1
        go_wp2_with fail
        clear q0 q1
        refine (l1In_no _ _ _ _ OK1.out).mono ?_
        rintro e w' ⟨rfl, rfl⟩
        clear HA HAP HI
        go_wp2
        go_ret
        exact ⟨false, rfl, ⟨fun e => (by cases e), fun g => absurd (g.l j hlt).1 OK1.out⟩, HB.out⟩
    · obtain rfl : j = k := by omega
      obtain ⟨p0, p1⟩ := get2 HD.out.box
      have HB : Hid (Blw w wr) := HD.out.blw
      have HC : Hid (IntsAt Y wr b.a1 n c) := HD.out.bk.c
      have HO : Hid (∀ t, t < j → cellOK (lc t) ∧ wordOK (lw t)) := HD.out.ok
      have HS : Hid (distinct j lc) := HD.out.d
      clear HD
      by_cases hn8 : n = 8
      · subst hn8
        by_cases hw : ∀ i, i < 8 → wordOK (c i)
        · have HW : Hid (∀ i, i < 8 → wordOK (c i)) := hw
          clear hw
          go_wp2_with fail
          refine (l1All_yes _ _ 8 c 0 65535 Y _ HC.out HW.out).mono ?_
          rintro e w' ⟨rfl, rfl⟩
          go_wp2
          go_ret
          exact ⟨true, rfl, ⟨fun _ => ⟨rfl, HW.out, HO.out, HS.out⟩, fun _ => rfl⟩, HB.out⟩
        · have HW : Hid (∃ i, i < 8 ∧ ¬ wordOK (c i)) := Classical.byContradiction fun hh => hw fun i hi => Classical.byContradiction fun h2 => hh ⟨i, hi, h2⟩
          clear hw
          obtain ⟨i, hi, hb2⟩ := HW.out
          have HN : Hid (¬ wordOK (c i)) := hb2
          clear hb2
          go_wp2_with fail
          refine (l1All_no _ _ 8 c 0 65535 Y _ HC.out i hi HN.out).mono ?_
          rintro e w' ⟨rfl, rfl⟩
          go_wp2
          go_ret
          exact ⟨false, rfl, ⟨fun e => (by cases e), fun g => absurd (g.c i hi) HN.out⟩, HB.out⟩
      · have hd8 : ((n : Int) == 8) = false := by simp; omega
        go_wp2
        go_ret
        first | exact ⟨false, rfl, ⟨fun e => (by cases e), fun g => absurd g.n hn8⟩, HB.out⟩ | exact Or.inl ⟨rfl, fun g => absurd g.n hn8, HB.out⟩
end Go.Proofs.Ytagjfkkjmgfoiaa
