/- Merged by program, in this order: PlayJ, Wp, Wi, Ko, Ke. -/
import Derived.Deep.RegionHeld3
import Derived.Test.YtbpdopcdhnemfaaJw7
/- Lists of steps played by a table: both sides' PlayPlain. -/
namespace Go.Proofs.Ytbpdopcdhnemfaa
open Go.RowKit
set_option linter.unusedSimpArgs false
set_option linter.unusedVariables false
/-- Tables Bs and answers A of the first j steps F, from B on. -/
def Plays (B : BD) (F : Nat → Nat → Int) (j : Nat) (Bs : Nat → BD) (A : Nat → Int) : Prop :=
  Bs 0 = B ∧ ∀ i, i < j → PSF (Bs i) (F i 0) (F i 1) (F i 2) (F i 3) (Bs (i + 1)) (A i)
theorem Plays.next {B R : BD} {F : Nat → Nat → Int} {j : Nat} {Bs : Nat → BD} {A : Nat → Int} {v : Int} (h : Plays B F j Bs A) (h1 : PSF (Bs j) (F j 0) (F j 1) (F j 2) (F j 3) R v) : Plays B F (j + 1) (fun i => if i = j + 1 then R else Bs i) (fun i => if i = j then v else A i) := by
  refine ⟨by show (if 0 = j + 1 then R else Bs 0) = B; rw [if_neg (by omega)]; exact h.1, fun i hi => ?_⟩
  have e0 : ¬ i = j + 1 := by omega
  by_cases e : i = j
  · subst e
    simp only [if_neg e0, if_pos]
    exact h1
  · have e1 : ¬ i + 1 = j + 1 := by omega
    simp only [if_neg e0, if_neg e, if_neg e1]
    exact h.2 i (by omega)
theorem Plays.same {B : BD} {F : Nat → Nat → Int} {Bs Bs' : Nat → BD} {A A' : Nat → Int} : ∀ {j : Nat}, Plays B F j Bs A → Plays B F j Bs' A' → (∀ i, i ≤ j → Bs i = Bs' i) ∧ ∀ i, i < j → A i = A' i := by
  intro j h h'
  have key : ∀ i, i ≤ j → Bs i = Bs' i ∧ (∀ t, t < i → A t = A' t) := by
    intro i
    induction i with
    | zero => intro _; exact ⟨h.1.trans h'.1.symm, fun t ht => absurd ht (Nat.not_lt_zero _)⟩
    | succ i ih =>
      intro hi
      obtain ⟨e1, e2⟩ := ih (by omega)
      have p1 := h.2 i (by omega)
      have p2 := h'.2 i (by omega)
      rw [← e1] at p2
      obtain ⟨e3, e4⟩ := PSF_same p1 p2
      refine ⟨e3, fun t ht => ?_⟩
      by_cases e : t = i
      · subst e; exact e4
      · exact e2 t (by omega)
  exact ⟨fun i hi => (key i hi).1, fun i hi => (key j (Nat.le_refl _)).2 i hi⟩
theorem modNew {X : Nat → Prop} {a b c : World} (h : Mod X a b) (k : Mod (fun x => x = a.heap.size) b c) : Mod X a c :=
  ⟨k.os.trans h.os, k.tape.trans h.tape, k.output.trans h.output, Nat.le_trans h.size k.size, fun i hi hx => (k.block i (Nat.lt_of_lt_of_le hi h.size) (fun e => by omega)).trans (h.block i hi hx)⟩
/-- The list at ao has the n answers A of the steps. -/
def plRow (n j : Nat) (A : Nat → Int) : Nat → Value := fun i => .int .i64 (if i < j then A i else 0)
theorem plRow_set {w : World} {z n j : Nat} {A : Nat → Int} {v : Int} (r : Row w z n (plRow n j A)) : Row (w.setCell ⟨z, j, none⟩ (.int .i64 v)) z n (plRow n (j + 1) (fun i => if i = j then v else A i)) :=
  (r.set j _).congr (fun i hi => by
    unfold plRow
    by_cases e : i = j
    · subst e; simp
    · by_cases e2 : i < j
      · have e3 : i < j + 1 := by omega
        simp [e, e2, e3]
      · have e3 : ¬ i < j + 1 := by omega
        simp [e, e2, e3])
set_option maxRecDepth 10000 in
set_option maxHeartbeats 6400000 in
theorem eachP_any (E : Nat → Prop) (zt zf : Nat) (b : BV) (B : BD) (ao : Option Addr) (n c : Nat) (F : Nat → Nat → Int) (w : World) (hn : n ≤ 1048576) (hE : ∀ x, E x → x < w.heap.size) (hzf : zf ≠ zt) (h : TS E w zt b B) (hf : Row w zf 1 (fun _ => .func (.func 88) #[] #[.pointer (some ⟨zt, 0, none⟩)])) (hl : KAt 4 (fun x => x < w.heap.size ∧ x ≠ zt) w ao n F) :
    Calls Try.prog 145 #[.slice ao n c, .func (.func 146) #[] #[.pointer (some ⟨zf, 0, none⟩)]] w fun e w' => ∃ Bs A b', e = .returned (.slice (some ⟨w.heap.size, 0, none⟩) n n) ∧ Plays B F n Bs A ∧ Row w' w.heap.size n (plRow n n A) ∧ TS E w' zt b' (Bs n) ∧ Mod (fun x => x = zt) w w' := by
  have hmk := mkInts n hn
  have hA : Blw w (w.alloc (.cells (madeCells #[.int .i64 0] n) 3)) := (Blw.refl _).alloc _
  have HT : Hid (TS (fun x => E x ∨ x = w.heap.size) (w.alloc (.cells (madeCells #[.int .i64 0] n) 3)) zt b B) := ⟨h.box.blw hA, (h.at_.blw hA).mono (fun x hx => ⟨fun e => e.elim hx.1 (fun e => by omega), by simp; omega, hx.2.2⟩)⟩
  have HR : Hid (Row (w.alloc (.cells (madeCells #[.int .i64 0] n) 3)) w.heap.size n (plRow n 0 (fun _ => 0))) := (Row.made w (.int .i64 0) n 3).congr (fun i hi => by unfold plRow; simp)
  have HF : Hid (Row (w.alloc (.cells (madeCells #[.int .i64 0] n) 3)) zf 1 (fun _ => .func (.func 88) #[] #[.pointer (some ⟨zt, 0, none⟩)])) := hf.blw hA
  have HM : Hid (Mod (fun x => x = zt) w (w.alloc (.cells (madeCells #[.int .i64 0] n) 3))) := hA.mod _
  have HL : Hid (KAt 4 (fun x => x < w.heap.size ∧ x ≠ zt) w ao n F) := hl
  have hzt := h.box.lt
  have hzfl := hf.lt
  clear h hf hl hA
  go_enter Try.func145, Try.ntmps145
  go_wp2_with fail
  clear hmk
  generalize w.alloc (.cells (madeCells #[.int .i64 0] n) 3) = W at *
  go_loopw [13] (fun i wr => ∃ j : Nat, j ≤ n ∧ i = .int .i64 j ∧ ∃ Bs A b', Plays B F j Bs A ∧ Row wr w.heap.size n (plRow n j A) ∧ TS (fun x => E x ∨ x = w.heap.size) wr zt b' (Bs j) ∧ Row wr zf 1 (fun _ => .func (.func 88) #[] #[.pointer (some ⟨zt, 0, none⟩)]) ∧ Mod (fun x => x = zt) w wr) (fun i _ => n - (intOf i).toNat)
  case atStart => exact ⟨0, Nat.zero_le _, rfl, fun _ => B, fun _ => 0, b, ⟨rfl, fun i hi => absurd hi (Nat.not_lt_zero _)⟩, HR.out, HT.out, HF.out, HM.out⟩
  case round =>
    clear HR HT HF HM
    obtain ⟨j, hj, rfl, Bs, A, b1, hP, hR, hT, hF, hM⟩ := hrel
    have HP : Hid (Plays B F j Bs A) := hP
    have HM : Hid (Mod (fun x => x = zt) w wr) := hM
    by_cases hlt : j < n
    · have hlt' : (j : Int) < (n : Int) := by omega
      have hA2 : Blw wr (wr.alloc (.cells #[.int .i64 (F j 0), .int .i64 (F j 1), .int .i64 (F j 2), .int .i64 (F j 3)] 42)) := (Blw.refl _).alloc _
      have HT : Hid (TS (fun x => E x ∨ x = w.heap.size) (wr.alloc (.cells #[.int .i64 (F j 0), .int .i64 (F j 1), .int .i64 (F j 2), .int .i64 (F j 3)] 42)) zt b1 (Bs j)) := hT.blw hA2
      have HR : Hid (Row (wr.alloc (.cells #[.int .i64 (F j 0), .int .i64 (F j 1), .int .i64 (F j 2), .int .i64 (F j 3)] 42)) w.heap.size n (plRow n j A)) := hR.blw hA2
      have HF : Hid (Row (wr.alloc (.cells #[.int .i64 (F j 0), .int .i64 (F j 1), .int .i64 (F j 2), .int .i64 (F j 3)] 42)) zf 1 (fun _ => .func (.func 88) #[] #[.pointer (some ⟨zt, 0, none⟩)])) := hF.blw hA2
      have HS : Hid (Row (wr.alloc (.cells #[.int .i64 (F j 0), .int .i64 (F j 1), .int .i64 (F j 2), .int .i64 (F j 3)] 42)) wr.heap.size 4 (fun i => if i = 0 then .int .i64 (F j 0) else if i = 1 then .int .i64 (F j 1) else if i = 2 then .int .i64 (F j 2) else .int .i64 (F j 3))) := box4 wr _ _ _ _ 42
      have HM2 : Hid (Mod (fun x => x = zt) w (wr.alloc (.cells #[.int .i64 (F j 0), .int .i64 (F j 1), .int .i64 (F j 2), .int .i64 (F j 3)] 42))) := hM.trans (hA2.mod _)
      have hsz := hA2.size
      have HE : Hid (∀ x, (fun x => E x ∨ x = w.heap.size) x → x < (wr.alloc (.cells #[.int .i64 (F j 0), .int .i64 (F j 1), .int .i64 (F j 2), .int .i64 (F j 3)] 42)).heap.size) := fun x hx => by
        have h1 := hR.lt
        rcases hx with h2 | h2
        · have := hE x h2; omega
        · omega
      obtain ⟨bl, o, rfl, -, g⟩ := (HL.out.mod hM (fun x hx e => hx.2 e)).2 j hlt
      have g0 := g 0 (by omega)
      have g1 := g 1 (by omega)
      have g2 := g 2 (by omega)
      have g3 := g 3 (by omega)
      rw [Nat.add_zero] at g0
      clear g hP hR hT hF hM hA2 hsz
      obtain ⟨s0, s1, s2, s3⟩ := get4 HS.out
      have HN : Hid (∀ (R : BD) (v : Int), PSF (Bs j) (F j 0) (F j 1) (F j 2) (F j 3) R v → Plays B F (j + 1) (fun i => if i = j + 1 then R else Bs i) (fun i => if i = j then v else A i)) := fun R v h1 => HP.out.next h1
      clear HP
      generalize F j 0 = x0 at *
      generalize F j 1 = x1 at *
      generalize F j 2 = x2 at *
      generalize F j 3 = x3 at *
      go_wp2_with fail
      clear s0 s1 s2 s3 g0 g1 g2 g3
      generalize wr.alloc (.cells #[.int .i64 x0, .int .i64 x1, .int .i64 x2, .int .i64 x3] 42) = wp at *
      refine (answerP_any (fun x => E x ∨ x = w.heap.size) zt zf b1 (Bs j) x0 x1 x2 x3 _ HE.out HT.out HF.out).mono ?_
      rintro e w2 ⟨b2, R, v, rfl, ho, ht, hm⟩
      have HN2 : Hid (∃ Bs2 A2 b2', Plays B F (j + 1) Bs2 A2 ∧ Row (w2.setCell ⟨w.heap.size, j, none⟩ (.int .i64 v)) w.heap.size n (plRow n (j + 1) A2) ∧ TS (fun x => E x ∨ x = w.heap.size) (w2.setCell ⟨w.heap.size, j, none⟩ (.int .i64 v)) zt b2' (Bs2 (j + 1)) ∧ Row (w2.setCell ⟨w.heap.size, j, none⟩ (.int .i64 v)) zf 1 (fun _ => .func (.func 88) #[] #[.pointer (some ⟨zt, 0, none⟩)]) ∧ Mod (fun x => x = zt) w (w2.setCell ⟨w.heap.size, j, none⟩ (.int .i64 v))) := by
        have ms : Mod (fun x => x = w.heap.size) w2 (w2.setCell ⟨w.heap.size, j, none⟩ (.int .i64 v)) := Mod.setCell (X := fun x => x = w.heap.size) _ (p := ⟨w.heap.size, j, none⟩) rfl _
        have hs := ms.size
        have e1 : (if j + 1 = j + 1 then R else Bs (j + 1)) = R := by simp
        refine ⟨_, _, b2, HN.out R v ho, plRow_set (HR.out.mod hm (by omega)), ?_, (HF.out.mod hm hzf).mod ms (by omega), ?_⟩
        · show TS _ _ _ _ (if j + 1 = j + 1 then R else Bs (j + 1))
          rw [e1]
          exact ht.mod ms (by omega) (fun x hx => Or.inr hx)
        · exact modNew (HM2.out.trans hm) ms
      have rz := HR.out.mod hm (by omega)
      obtain ⟨vv, gv⟩ : ∃ v, w2.cell? ⟨w.heap.size, j, none⟩ = some v := ⟨_, rz.cell hlt⟩
      have gz := rz.frozen j
      clear HN ho ht hm HR HF HS HM2 HE HT rz
      go_wp2
      go_roundw
      case rel => exact ⟨j + 1, by omega, by go_num, HN2.out⟩
      case measure => simp [intOf]; omega
    · obtain rfl : j = n := by omega
      have FP : Hid (Plays B F j Bs A) := hP
      have FR : Hid (Row wr w.heap.size j (plRow j j A)) := hR
      have FT : Hid (TS E wr zt b1 (Bs j)) := ⟨hT.box, hT.at_.mono (fun x hx => ⟨fun e => hx.1 (Or.inl e), hx.2⟩)⟩
      have FM : Hid (Mod (fun x => x = zt) w wr) := hM
      clear hP hR hT hF hM HP HM
      go_wp2
      exact bodyPost_ret (v := .slice (some ⟨w.heap.size, 0, none⟩) j j) (by simp [results, Try.results145, go_sem]) rfl (by first | exact ⟨rfl, Bs, A, FP.out, FR.out, ⟨b1, FT.out⟩, FM.out⟩ | exact ⟨Bs, A, b1, rfl, FP.out, FR.out, FT.out, FM.out⟩)
end Go.Proofs.Ytbpdopcdhnemfaa
namespace Go.Proofs.Ytbpdopcdhnemfaa
open Go.RowKit
set_option linter.unusedSimpArgs false
set_option linter.unusedVariables false
theorem box1row (w : World) (u : Value) (t : TypeId) : Row (w.alloc (.cells #[u] t)) w.heap.size 1 (fun _ => u) :=
  Row.of_cells (heap_alloc_new w (.cells #[u] t)) (fun _ => u) (fun i hi => by obtain rfl : i = 0 := by simpa using hi
                                                                               rfl)
set_option maxRecDepth 10000 in
set_option maxHeartbeats 1600000 in
theorem answersTo_any (E : Nat → Prop) (zt : Nat) (b : BV) (B : BD) (ao : Option Addr) (n c : Nat) (F : Nat → Nat → Int) (w : World) (hn : n ≤ 1048576) (hE : ∀ x, E x → x < w.heap.size) (h : TS E w zt b B) (hl : KAt 4 (fun x => x < w.heap.size ∧ x ≠ zt) w ao n F) :
    Calls Try.prog 81 #[.slice ao n c, .func (.func 88) #[] #[.pointer (some ⟨zt, 0, none⟩)]] w fun e w' => ∃ z Bs A b', e = .returned (.slice (some ⟨z, 0, none⟩) n n) ∧ Plays B F n Bs A ∧ w.heap.size ≤ z ∧ Row w' z n (plRow n n A) ∧ TS E w' zt b' (Bs n) ∧ Mod (fun x => x = zt) w w' := by
  have hA : Blw w (w.alloc (.cells #[.func (.func 88) #[] #[.pointer (some ⟨zt, 0, none⟩)]] 114)) := (Blw.refl _).alloc _
  have HT : Hid (TS E (w.alloc (.cells #[.func (.func 88) #[] #[.pointer (some ⟨zt, 0, none⟩)]] 114)) zt b B) := h.blw hA
  have HF : Hid (Row (w.alloc (.cells #[.func (.func 88) #[] #[.pointer (some ⟨zt, 0, none⟩)]] 114)) w.heap.size 1 (fun _ => .func (.func 88) #[] #[.pointer (some ⟨zt, 0, none⟩)])) := box1row w _ _
  have HL : Hid (KAt 4 (fun x => x < (w.alloc (.cells #[.func (.func 88) #[] #[.pointer (some ⟨zt, 0, none⟩)]] 114)).heap.size ∧ x ≠ zt) (w.alloc (.cells #[.func (.func 88) #[] #[.pointer (some ⟨zt, 0, none⟩)]] 114)) ao n F) := (hl.blw hA).mono (fun x hx => ⟨Nat.lt_of_lt_of_le hx.1 hA.size, hx.2⟩)
  have HB : Hid (Blw w (w.alloc (.cells #[.func (.func 88) #[] #[.pointer (some ⟨zt, 0, none⟩)]] 114))) := hA
  have hz := h.box.lt
  have HZ : Hid (w.heap.size ≠ zt) := by show _ ≠ _; omega
  clear h hl hA hz
  go_enter Try.func81, Try.ntmps81
  go_wp2_with fail
  generalize w.alloc (.cells #[.func (.func 88) #[] #[.pointer (some ⟨zt, 0, none⟩)]] 114) = wp at *
  refine (eachP_any E zt w.heap.size b B ao n c F wp hn (fun x hx => Nat.lt_of_lt_of_le (hE x hx) HB.out.size) HZ.out HT.out HF.out HL.out).mono ?_
  rintro e w2 ⟨Bs, A, b2, rfl, hp, hr, ht, hm⟩
  have FIN : Hid (∃ z Bs A b', Ending.returned (.slice (some ⟨wp.heap.size, 0, none⟩) n n) = .returned (.slice (some ⟨z, 0, none⟩) n n) ∧ Plays B F n Bs A ∧ w.heap.size ≤ z ∧ Row w2 z n (plRow n n A) ∧ TS E w2 zt b' (Bs n) ∧ Mod (fun x => x = zt) w w2) := ⟨_, Bs, A, b2, rfl, hp, HB.out.size, hr, ht, (HB.out.mod _).trans hm⟩
  clear hp hr ht hm HT HF HL HB HZ
  go_wp2
  go_ret
  exact FIN.out
set_option maxRecDepth 10000 in
set_option maxHeartbeats 1600000 in
theorem tableToPlay_any (k : Int) (ao : Option Addr) (n c : Nat) (w : World) (hn : n ≤ 1048576) :
    Calls Try.prog 80 #[.int .i64 k, .slice ao n c] w (GivesB (resT (cntOK k ∧ n ≤ 60) (newB k)) w) := by
  have hb0 : Blw w (w.alloc (.cells #[.slice none 0 0, .slice none 0 0] 29)) := (Blw.refl _).alloc _
  have r0 := box2 w (.slice none 0 0) (.slice none 0 0) 29
  go_enter Try.func80, Try.ntmps80
  by_cases hle : n ≤ 60
  · have hle' : ¬ (n : Int) > 60 := by omega
    have HB : Hid (Blw w (w.alloc (.cells #[.slice none 0 0, .slice none 0 0] 29))) := hb0
    have HR : Hid (Row (w.alloc (.cells #[.slice none 0 0, .slice none 0 0] 29)) w.heap.size 2 (fun i => if i = 0 then .slice none 0 0 else .slice none 0 0)) := r0
    clear hb0 r0
    go_wp2_with fail
    clear hle'
    generalize w.alloc (.cells #[.slice none 0 0, .slice none 0 0] 29) = w0 at *
    refine (implNew_any k _).mono ?_
    rintro e w1 ⟨b, R, r, rfl, ho, hs, own, hb1⟩
    have hz := HR.out.lt
    replace HR : Hid (Row w1 w.heap.size 2 (fun i => if i = 0 then .slice none 0 0 else .slice none 0 0)) := HR.out.blw hb1
    have ho2 : resT (cntOK k ∧ n ≤ 60) (newB k) R r := ho.elim (fun ⟨h1, h2⟩ => Or.inl ⟨⟨h1, hle⟩, h2⟩) (fun ⟨h1, h2⟩ => Or.inr ⟨fun g => h1 g.1, h2⟩)
    have hm := set2_mod (X := fun x => x = w.heap.size) w1 rfl (.slice b.a1 R.n b.c1) (.slice b.a2 R.D.n b.c2)
    have hms := hm.size
    have hbs := HB.out.size
    have hb1s := hb1.size
    have FIN : Hid (GivesB (resT (cntOK k ∧ n ≤ 60) (newB k)) w (.returned (.tuple #[b.val R, .bool r])) ((w1.setCell ⟨w.heap.size, 0, none⟩ (.slice b.a1 R.n b.c1)).setCell ⟨w.heap.size, 1, none⟩ (.slice b.a2 R.D.n b.c2))) :=
      ⟨b, R, r, rfl, ho2, hs, (own.mod hm (fun x hx e => by omega)).mono (fun x hx => by omega), set2_blw (HB.out.trans hb1) (Nat.le_refl _) _ _⟩
    obtain ⟨t0, t1⟩ := get2 HR.out
    have f0 := HR.out.frozen 0
    have f1 := HR.out.frozen 1
    clear ho ho2 hs own hb1 HB HR hm hms hbs hb1s hz
    go_wp2
    exact bodyPost_ret (v := .tuple #[b.val R, .bool r]) (by simp [results, Try.results80, go_sem, t0, t1]) rfl FIN.out
  · have hle' : (n : Int) > 60 := by omega
    have FIN : Hid (GivesB (resT (cntOK k ∧ n ≤ 60) (newB k)) w (.returned (.tuple #[BV.zero.val BD.zero, .bool false])) (w.alloc (.cells #[.slice none 0 0, .slice none 0 0] 29))) := zero_givesT0 (Or.inr ⟨fun g => hle g.2, rfl, rfl⟩) hb0
    obtain ⟨t0, t1⟩ := get2 r0
    have f0 := r0.frozen 0
    have f1 := r0.frozen 1
    clear hb0 r0
    go_wp2
    exact bodyPost_ret (v := .tuple #[BV.zero.val BD.zero, .bool false]) (by simp [results, Try.results80, go_sem, t0, t1]) rfl FIN.out
/-- What PlayPlain answers. -/
def ppO (k : Int) (n : Nat) (F : Nat → Nat → Int) (N : Nat) (f : Nat → Int) (r : Bool) : Prop :=
  ((cntOK k ∧ n ≤ 60) ∧ r = true ∧ N = n ∧ ∃ Bs A, Plays (newB k) F n Bs A ∧ ∀ i, i < n → f i = A i) ∨ (¬ (cntOK k ∧ n ≤ 60) ∧ r = false ∧ N = 0)
theorem ppO_same {k : Int} {n : Nat} {F : Nat → Nat → Int} {N N' : Nat} {f f' : Nat → Int} {r r' : Bool} (h : ppO k n F N f r) (h' : ppO k n F N' f' r') : r = r' ∧ N = N' ∧ ∀ i, i < N → f i = f' i := by
  rcases h with ⟨g, rfl, rfl, Bs, A, hp, e⟩ | ⟨g, rfl, rfl⟩ <;> rcases h' with ⟨g', rfl, rfl, Bs', A', hp', e'⟩ | ⟨g', rfl, rfl⟩
  · exact ⟨rfl, rfl, fun i hi => (e i hi).trans (((hp.same hp').2 i hi).trans (e' i hi).symm)⟩
  · exact absurd g g'
  · exact absurd g' g
  · exact ⟨rfl, rfl, fun i hi => absurd hi (Nat.not_lt_zero _)⟩
set_option maxRecDepth 10000 in
set_option maxHeartbeats 1600000 in
theorem implPP_any (k : Int) (ao : Option Addr) (n c : Nat) (F : Nat → Nat → Int) (w : World) (hn : n ≤ 1048576) (hl : KAt 4 (fun x => x < w.heap.size) w ao n F) :
    Calls Try.prog 18 #[.int .i64 k, .slice ao n c] w (GivesI (ppO k n F) w) := by
  go_enter Try.func18, Try.ntmps18
  have HL : Hid (KAt 4 (fun x => x < w.heap.size) w ao n F) := hl
  clear hl
  go_wp2_with fail
  refine (tableToPlay_any k ao n c w hn).mono ?_
  rintro e w1 ⟨b, R, r, rfl, ho, hs, own, hb1⟩
  have HO : Hid (resT (cntOK k ∧ n ≤ 60) (newB k) R r) := ho
  have hA : Blw w1 (w1.alloc (.cells #[.slice b.a1 R.n b.c1, .slice b.a2 R.D.n b.c2] 29)) := (Blw.refl _).alloc _
  have HT : Hid (TS (fun _ : Nat => False) (w1.alloc (.cells #[.slice b.a1 R.n b.c1, .slice b.a2 R.D.n b.c2] 29)) w1.heap.size b R) := ⟨box2 w1 _ _ 29, (own.at.blw hA).mono (fun x hx => ⟨id, by simp; omega, by omega⟩)⟩
  have HB : Hid (Blw w (w1.alloc (.cells #[.slice b.a1 R.n b.c1, .slice b.a2 R.D.n b.c2] 29))) := hb1.trans hA
  have HL2 : Hid (KAt 4 (fun x => x < (w1.alloc (.cells #[.slice b.a1 R.n b.c1, .slice b.a2 R.D.n b.c2] 29)).heap.size ∧ x ≠ w1.heap.size) (w1.alloc (.cells #[.slice b.a1 R.n b.c1, .slice b.a2 R.D.n b.c2] 29)) ao n F) := (HL.out.blw (hb1.trans hA)).mono (fun x hx => by have h1 := hb1.size; have h2 := hA.size; omega)
  have HZ : Hid (w.heap.size ≤ w1.heap.size) := hb1.size
  clear ho hs own hb1 hA HL
  cases r
  · have HN : Hid (¬ (cntOK k ∧ n ≤ 60)) := HO.out.elim (fun g => by cases g.2.2) (fun g => g.1)
    have FIN : Hid _ := zero_givesI (out := ppO k n F) (w := w) (w1 := w1.alloc (.cells #[.slice b.a1 R.n b.c1, .slice b.a2 R.D.n b.c2] 29)) (Or.inr ⟨HN.out, rfl, rfl⟩) HB.out
    clear HO HT HB HL2 HZ HN
    go_wp2
    exact bodyPost_ret (v := .tuple #[.slice none 0 0, .bool false]) (by simp [results, Try.results18, go_sem]) rfl FIN.out
  have HY : Hid ((cntOK k ∧ n ≤ 60) ∧ R = newB k) := HO.out.elim (fun g => ⟨g.1, g.2.1⟩) (fun g => by cases g.2.2)
  clear HO
  go_wp2_with fail
  generalize w1.alloc (.cells #[.slice b.a1 R.n b.c1, .slice b.a2 R.D.n b.c2] 29) = wp at *
  refine (answersTo_any (fun _ : Nat => False) w1.heap.size b R ao n c F wp hn (fun x hx => hx.elim) HT.out HL2.out).mono ?_
  rintro e w2 ⟨z, Bs, A, b2, rfl, hp, hz, hr, ht, hm⟩
  have hzz := hr.lt
  have hbs := HB.out.size
  have FIN : Hid (GivesI (ppO k n F) w (.returned (.tuple #[.slice (some ⟨z, 0, none⟩) n n, .bool true])) w2) :=
    ⟨some ⟨z, 0, none⟩, n, n, A, true, rfl, Or.inl ⟨HY.out.1, rfl, rfl, Bs, A, HY.out.2 ▸ hp, fun i hi => rfl⟩, hn, ⟨by omega, fun hn => ⟨z, ⟨by omega, by omega⟩, rfl, hr.congr (fun i hi => by unfold plRow; rw [if_pos hi])⟩⟩, Mod.blw HB.out hm (fun i hi => by have := HZ.out; omega)⟩
  clear hp hr ht hm hz hzz hbs HT HB HL2 HZ HY
  go_wp2
  exact bodyPost_ret (v := .tuple #[.slice (some ⟨z, 0, none⟩) n n, .bool true]) (by simp [results, Try.results18, go_sem]) rfl FIN.out
end Go.Proofs.Ytbpdopcdhnemfaa
namespace Go.Proofs.Ytbpdopcdhnemfaa
open Go.RowKit
set_option linter.unusedSimpArgs false
set_option linter.unusedVariables false
/-- A table in a box at zt and a list v of answers that grows, both behind w. -/
structure GS (w wr : World) (zt : Nat) (b : BV) (B : BD) (v : Value) (n : Nat) (f : Nat → Int) : Prop where
  tab : TS (fun x => v.ownBlock = some x) wr zt b B
  buf : BufI (fun x => w.heap.size ≤ x ∧ x < wr.heap.size ∧ x ≠ zt) wr v n f
  blw : Blw w wr
  lo : w.heap.size ≤ zt
  sm : B.n ≤ 1048576
theorem GS.go {w wr w' : World} {zt : Nat} {b : BV} {B : BD} {v : Value} {n : Nat} {f : Nat → Int} (h : GS w wr zt b B v n f) (hb : Blw wr w') : GS w w' zt b B v n f :=
  ⟨h.tab.blw hb, (Buf.blw h.buf hb).mono (fun x hx => ⟨hx.1, Nat.lt_of_lt_of_le hx.2.1 hb.size, hx.2.2⟩), h.blw.trans hb, h.lo, h.sm⟩
theorem GS.push {w wr : World} {zt : Nat} {b : BV} {B : BD} {v : Value} {n : Nat} {f : Nat → Int} (h : GS w wr zt b B v n f) (hn : n ≤ 1048576) (x : Int) :
    ∃ ao' cap w', (Builtin.append_ #[26, 26] 26 #[v, .slice (some ⟨wr.heap.size, 0, none⟩) 1 1]).run Try.prog (wr.alloc (.cells #[.int .i64 x] 3)) = .ok (.slice ao' (n + 1) cap) w' ∧ GS w w' zt b B (.slice ao' (n + 1) cap) (n + 1) (fun i => if i = n then x else f i) := by
  have hX : BufI (fun x => v.ownBlock = some x) wr v n f := ⟨h.buf.1, fun g hg => hg⟩
  obtain ⟨a, cap, w', h1, h2, h3⟩ := pushI hX hn x
  have hs := h.blw.size
  have hs3 := h3.size
  have hzt := h.tab.box.lt
  have hlo := h.lo
  have hx : ∀ b, v.ownBlock = some b → w.heap.size ≤ b ∧ b < wr.heap.size ∧ b ≠ zt := fun b hb => h.buf.2 b hb
  refine ⟨a, cap, w', h1, ⟨⟨h.tab.box.mod h3 (fun e => (hx _ e).2.2 rfl), (h.tab.at_.mod h3 (fun x hx e => hx.1 e)).mono (fun x hx2 => ⟨fun e => ?_, by omega, hx2.2.2⟩)⟩, (Buf.congr (Buf.mono h2 (fun b hb => ?_)) (fun i hi => ?_)), Mod.blw h.blw h3 (fun b hb => (hx b hb).1), hlo, h.sm⟩⟩
  · rcases (h2.2 x e).1 with q | q
    · exact hx2.1 q
    · have := hx2.2.1; omega
  · rcases hb.1 with q | q
    · have := hx b q; exact ⟨this.1, hb.2, this.2.2⟩
    · exact ⟨by omega, hb.2, by omega⟩
  · simp only [ic, snoc', Nat.mul_one] at *
theorem GS.upd {w W : World} {zt : Nat} {b b3 : BV} {B R : BD} {v : Value} {n : Nat} {f : Nat → Int} {X : Nat → Prop} (h : GS w W zt b B v n f) (own : BookAt X W b3 R) (hX : ∀ x, X x → x ≠ zt ∧ (¬ v.ownBlock = some x) ∧ x < W.heap.size) (hs : R.n ≤ 1048576) :
    GS w ((W.setCell ⟨zt, 0, none⟩ (.slice b3.a1 R.n b3.c1)).setCell ⟨zt, 1, none⟩ (.slice b3.a2 R.D.n b3.c2)) zt b3 R v n f := by
  have m3 := set2_mod (X := fun x => x = zt) W rfl (.slice b3.a1 R.n b3.c1) (.slice b3.a2 R.D.n b3.c2)
  have hsz := m3.size
  have hlo := h.lo
  exact ⟨⟨row2_set h.tab.box, (own.mod m3 (fun x hx e => (hX x hx).1 e)).mono (fun x hx => by have := hX x hx; exact ⟨this.2.1, by omega, this.1⟩)⟩, (Buf.mod h.buf m3 (fun x hx e => hx.2.2 e)).mono (fun x hx => ⟨hx.1, by omega, hx.2.2⟩), Mod.blw h.blw m3 (fun x hx => by omega), hlo, hs⟩
theorem GS.own {w wr : World} {zt : Nat} {b : BV} {B : BD} {v : Value} {n : Nat} {f : Nat → Int} (h : GS w wr zt b B v n f) (hn : n ≤ 1048576) : ∃ ao cap, v = .slice ao n cap ∧ IntsOwn (fun x => w.heap.size ≤ x ∧ x < wr.heap.size) wr ao n f := by
  obtain ⟨ao, cap, e, ho⟩ := BufI.own h.buf (by omega)
  exact ⟨ao, cap, e, ho.mono (fun x hx => ⟨hx.1, hx.2.1⟩)⟩
end Go.Proofs.Ytbpdopcdhnemfaa
namespace Go.Proofs.Ytbpdopcdhnemfaa
open Go.RowKit
set_option linter.unusedSimpArgs false
set_option linter.unusedVariables false
set_option maxRecDepth 10000 in
set_option maxHeartbeats 12800000 in
theorem specPP_any (k0 : Int) (ao : Option Addr) (n c : Nat) (F : Nat → Nat → Int) (w : World) (hn : n ≤ 1048576) (hl : KAt 4 (fun x => x < w.heap.size) w ao n F) :
    Calls Try.prog 19 #[.int .i64 k0, .slice ao n c] w (GivesI (ppO k0 n F) w) := by
  go_enter Try.func19, Try.ntmps19
  have HL : Hid (KAt 4 (fun x => x < w.heap.size) w ao n F) := hl
  clear hl
  go_wp2_with fail
  refine (specNew_any k0 w).mono ?_
  rintro e w1 ⟨bq, Rq, r, rfl, ho, hs, own, hb1⟩
  have HO : Hid (resT (cntOK k0) (newB k0) Rq r) := ho
  have hA : Blw w1 (w1.alloc (.cells #[.slice bq.a1 Rq.n bq.c1, .slice bq.a2 Rq.D.n bq.c2] 29)) := (Blw.refl _).alloc _
  have HG0 : Hid (GS w (w1.alloc (.cells #[.slice bq.a1 Rq.n bq.c1, .slice bq.a2 Rq.D.n bq.c2] 29)) w1.heap.size bq Rq (.slice none 0 0) 0 (fun _ => 0)) := ⟨⟨box2 w1 _ _ 29, (own.at.blw hA).mono (fun x hx => ⟨by simp [Value.ownBlock], by simp; omega, by omega⟩)⟩, Buf.nil _ _ _ _ _, hb1.trans hA, hb1.size, by omega⟩
  have HB : Hid (Blw w (w1.alloc (.cells #[.slice bq.a1 Rq.n bq.c1, .slice bq.a2 Rq.D.n bq.c2] 29))) := hb1.trans hA
  clear ho hs own hb1 hA
  cases r
  · have HN : Hid (¬ (cntOK k0 ∧ n ≤ 60)) := HO.out.elim (fun g => by cases g.2.2) (fun g q => g.1 q.1)
    have FIN : Hid _ := zero_givesI (out := ppO k0 n F) (w := w) (w1 := w1.alloc (.cells #[.slice bq.a1 Rq.n bq.c1, .slice bq.a2 Rq.D.n bq.c2] 29)) (Or.inr ⟨HN.out, rfl, rfl⟩) HB.out
    clear HO HB HL HN HG0
    go_wp2
    exact bodyPost_ret (v := .tuple #[.slice none 0 0, .bool false]) (by simp [results, Try.results19, go_sem]) rfl FIN.out
  by_cases hle : n ≤ 60
  case neg =>
    have hle' : (n : Int) > 60 := by omega
    have HN : Hid (¬ (cntOK k0 ∧ n ≤ 60)) := fun q => hle q.2
    have FIN : Hid _ := zero_givesI (out := ppO k0 n F) (w := w) (w1 := w1.alloc (.cells #[.slice bq.a1 Rq.n bq.c1, .slice bq.a2 Rq.D.n bq.c2] 29)) (Or.inr ⟨HN.out, rfl, rfl⟩) HB.out
    clear HO HB HL HN HG0
    go_wp2
    exact bodyPost_ret (v := .tuple #[.slice none 0 0, .bool false]) (by simp [results, Try.results19, go_sem]) rfl FIN.out
  have hle' : ¬ (n : Int) > 60 := by omega
  have HY : Hid (cntOK k0 ∧ n ≤ 60) := HO.out.elim (fun g => ⟨g.1, hle⟩) (fun g => by cases g.2.2)
  have HG : Hid (GS w (w1.alloc (.cells #[.slice bq.a1 Rq.n bq.c1, .slice bq.a2 Rq.D.n bq.c2] 29)) w1.heap.size bq (newB k0) (.slice none 0 0) 0 (fun _ => 0)) := HO.out.elim (fun g => by rw [← g.2.1]; exact HG0.out) (fun g => by cases g.2.2)
  clear HO HG0 HB
  go_wp2_with fail
  clear hle'
  generalize w1.alloc (.cells #[.slice bq.a1 Rq.n bq.c1, .slice bq.a2 Rq.D.n bq.c2] 29) = W at *
  generalize w1.heap.size = zt at *
  go_loopw [8, 31] (fun v i wr => ∃ j : Nat, j ≤ n ∧ i = .int .i64 j ∧ ∃ Bs A b, Plays (newB k0) F j Bs A ∧ GS w wr zt b (Bs j) v j A) (fun _ i _ => n - (intOf i).toNat)
  case atStart => exact ⟨0, Nat.zero_le _, rfl, fun _ => newB k0, fun _ => 0, bq, ⟨rfl, fun i hi => absurd hi (Nat.not_lt_zero _)⟩, HG.out⟩
  case round =>
    clear HG
    obtain ⟨j, hj, rfl, Bs, A, b, hP, hG⟩ := hrel
    generalize u8 = v at *
    have HP : Hid (Plays (newB k0) F j Bs A) := hP
    have HG : Hid (GS w wr zt b (Bs j) v j A) := hG
    clear hP hG
    by_cases hlt : j < n
    · have hlt' : (j : Int) < (n : Int) := by omega
      have HNX : Hid (∀ (R : BD) (x : Int), PSF (Bs j) (F j 0) (F j 1) (F j 2) (F j 3) R x → Plays (newB k0) F (j + 1) (fun i => if i = j + 1 then R else Bs i) (fun i => if i = j then x else A i)) := fun R x h1 => HP.out.next h1
      obtain ⟨bl, o, rfl, -, g⟩ := (HL.out.blw HG.out.blw).2 j hlt
      have g0 := g 0 (by omega)
      have g1 := g 1 (by omega)
      have g2 := g 2 (by omega)
      have g3 := g 3 (by omega)
      rw [Nat.add_zero] at g0
      clear g HP
      generalize F j 0 = x0 at *
      generalize F j 1 = x1 at *
      generalize F j 2 = x2 at *
      generalize F j 3 = x3 at *
      have hA2 : Blw wr (wr.alloc (.cells #[.int .i64 x0, .int .i64 x1, .int .i64 x2, .int .i64 x3] 42)) := (Blw.refl _).alloc _
      replace HG : Hid (GS w (wr.alloc (.cells #[.int .i64 x0, .int .i64 x1, .int .i64 x2, .int .i64 x3] 42)) zt b (Bs j) v j A) := HG.out.go hA2
      have HS : Hid (Row (wr.alloc (.cells #[.int .i64 x0, .int .i64 x1, .int .i64 x2, .int .i64 x3] 42)) wr.heap.size 4 (fun i => if i = 0 then .int .i64 x0 else if i = 1 then .int .i64 x1 else if i = 2 then .int .i64 x2 else .int .i64 x3)) := box4 wr _ _ _ _ 42
      clear hA2
      have HE : Hid (∃ B, Bs j = B) := ⟨_, rfl⟩
      obtain ⟨s0, s1, s2, s3⟩ := get4 HS.out
      go_wp2_with fail
      clear g0 g1 g2 g3 s0 s1 s2 s3
      generalize wr.alloc (.cells #[.int .i64 x0, .int .i64 x1, .int .i64 x2, .int .i64 x3] 42) = wp at *
      generalize wr.heap.size = zs at *
      obtain ⟨B, hB⟩ := HE.out
      rw [hB] at HG HNX
      clear hB HE
      refine (l7Right_any x0 x1 x2 x3 _).mono ?_
      rintro e w2 ⟨r, rfl, hr, hb2⟩
      have HR : Hid (r = true ↔ rightS x0 x1 x2 x3) := hr
      replace HG : Hid (GS w w2 zt b B v j A) := HG.out.go hb2
      replace HS : Hid (Row w2 zs 4 (fun i => if i = 0 then .int .i64 x0 else if i = 1 then .int .i64 x1 else if i = 2 then .int .i64 x2 else .int .i64 x3)) := HS.out.blw hb2
      clear hr hb2
      cases r
      · have HNR : Hid (¬ rightS x0 x1 x2 x3) := fun q => by have := HR.out.2 q; simp at this
        clear HR
        obtain ⟨ao2, cap2, w5, hrun, hG2⟩ := GS.push HG.out (by omega) (-1)
        have HRN : Hid _ := hrun
        have HN : Hid (∃ Bs A b, Plays (newB k0) F (j + 1) Bs A ∧ GS w w5 zt b (Bs (j + 1)) (.slice ao2 (j + 1) cap2) (j + 1) A) := ⟨_, _, b, HNX.out B (-1) (Or.inl ⟨HNR.out, rfl, rfl⟩), by show GS w w5 zt b (if j + 1 = j + 1 then B else Bs (j + 1)) _ _ _; rw [if_pos rfl]; exact hG2⟩
        clear hrun hG2 HG HS HNX HNR HL
        go_wp2_with (first | (at_builtin; refine wpList_app (.tmp 64) (.tmp 66) 26 (by rfl) ?_; refine ⟨_, _, HRN.out, ?_⟩) | fail)
        go_roundw
        case rel => exact ⟨j + 1, by omega, by go_num, HN.out⟩
        case measure => simp [intOf]; omega
      have HYR : Hid (rightS x0 x1 x2 x3) := HR.out.1 (by first | rfl | trivial)
      clear HR
      obtain ⟨s0, s1, s2, s3⟩ := get4 HS.out
      by_cases k1 : x0 = 1
      · subst k1
        obtain ⟨t0, t1⟩ := get2 HG.out.tab.box
        go_wp2_with fail
        clear s0 s1 s2 s3 t0 t1
        refine (specWalk_any b B x1 x3 _ _ HG.out.sm HG.out.tab.at_).mono ?_
        rintro e wn ⟨x, yy, r, rfl, ho, hbk⟩
        have HO : Hid (wtOut B x1 x3 x yy r) := ho
        replace HG : Hid (GS w wn zt b B v j A) := HG.out.go hbk
        clear ho hbk HS HL
        cases r
        · obtain ⟨ao2, cap2, w5, hrun, hG2⟩ := GS.push HG.out (by omega) 0
          have HRN : Hid _ := hrun
          have HN : Hid (∃ Bs A b, Plays (newB k0) F (j + 1) Bs A ∧ GS w w5 zt b (Bs (j + 1)) (.slice ao2 (j + 1) cap2) (j + 1) A) := ⟨_, _, b, HNX.out B 0 (Or.inr ⟨HYR.out, Or.inl ⟨rfl, rfl, x, yy, false, HO.out, by simp⟩⟩), by show GS w w5 zt b (if j + 1 = j + 1 then B else Bs (j + 1)) _ _ _; rw [if_pos rfl]; exact hG2⟩
          clear hrun hG2 HG HNX HYR HO
          go_wp2_with (first | (at_builtin; refine wpList_app (.tmp 64) (.tmp 66) 26 (by rfl) ?_; refine ⟨_, _, HRN.out, ?_⟩) | fail)
          go_roundw
          case rel => exact ⟨j + 1, by omega, by go_num, HN.out⟩
          case measure => simp [intOf]; omega
        · have hx := wt_page HO.out
          have hw : IntKind.i64.wrap (1 + x) = 1 + x := by rw [IntKind.wrap_i64]; omega
          obtain ⟨ao2, cap2, w5, hrun, hG2⟩ := GS.push HG.out (by omega) (1 + x)
          have HRN : Hid _ := hrun
          have HN : Hid (∃ Bs A b, Plays (newB k0) F (j + 1) Bs A ∧ GS w w5 zt b (Bs (j + 1)) (.slice ao2 (j + 1) cap2) (j + 1) A) := ⟨_, _, b, HNX.out B (1 + x) (Or.inr ⟨HYR.out, Or.inl ⟨rfl, rfl, x, yy, true, HO.out, by simp⟩⟩), by show GS w w5 zt b (if j + 1 = j + 1 then B else Bs (j + 1)) _ _ _; rw [if_pos rfl]; exact hG2⟩
          clear hrun hG2 HG HNX HYR HO
          go_wp2_with (first | (at_builtin; refine wpList_app (.tmp 64) (.tmp 66) 26 (by rfl) ?_; refine ⟨_, _, HRN.out, ?_⟩) | fail)
          go_roundw
          case rel => exact ⟨j + 1, by omega, by go_num, HN.out⟩
          case measure => simp [intOf]; omega
      · have d1 : (x0 == 1) = false := by simp [k1]
        have HK1 : Hid (¬ x0 = 1) := k1
        have HK : Hid (x0 = 2 ∨ x0 = 3 ∨ x0 = 4) := right_k HYR.out k1
        clear k1
        obtain ⟨t0, t1⟩ := get2 HG.out.tab.box
        go_wp2_with fail
        clear s0 s1 s2 s3 d1 t0 t1
        refine (specChg_any b B x0 x1 x2 x3 _ _ HG.out.sm HK.out HG.out.tab.at_).mono ?_
        rintro e wn ⟨b3, R, r3, rfl, ho3, hs3, own3, hbk⟩
        have HO : Hid (chgO B x0 x1 x2 x3 R r3) := ho3
        have HSM : Hid (R.n ≤ 1048576) := by show _ ≤ _; omega
        have hA3 : Blw wn (wn.alloc (.cells #[.slice b3.a1 R.n b3.c1, .slice b3.a2 R.D.n b3.c2] 29)) := (Blw.refl _).alloc _
        have HOW : Hid (BookAt (fun x => x ≠ zt ∧ (¬ v.ownBlock = some x) ∧ x < (wn.alloc (.cells #[.slice b3.a1 R.n b3.c1, .slice b3.a2 R.D.n b3.c2] 29)).heap.size) (wn.alloc (.cells #[.slice b3.a1 R.n b3.c1, .slice b3.a2 R.D.n b3.c2] 29)) b3 R) := (own3.at.blw hA3).mono (fun x hx => ⟨by have := HG.out.tab.box.lt; omega, fun e => by have := (HG.out.buf.2 x e).2.1; omega, by rw [World.size_alloc]; omega⟩)
        replace HG : Hid (GS w (wn.alloc (.cells #[.slice b3.a1 R.n b3.c1, .slice b3.a2 R.D.n b3.c2] 29)) zt b B v j A) := (HG.out.go hbk).go hA3
        have HZ : Hid (Row (wn.alloc (.cells #[.slice b3.a1 R.n b3.c1, .slice b3.a2 R.D.n b3.c2] 29)) wn.heap.size 2 (fun i => if i = 0 then .slice b3.a1 R.n b3.c1 else .slice b3.a2 R.D.n b3.c2)) := box2 wn _ _ 29
        clear ho3 hs3 own3 hbk hA3 HS HL
        go_upto_region 11 with fail
        generalize wn.alloc (.cells #[.slice b3.a1 R.n b3.c1, .slice b3.a2 R.D.n b3.c2] 29) = wq at *
        generalize wn.heap.size = zb at *
        cases r3
        · obtain ⟨ao2, cap2, w5, hrun, hG2⟩ := GS.push HG.out (by omega) 0
          have HRN : Hid _ := hrun
          have HN : Hid (∃ Bs A b, Plays (newB k0) F (j + 1) Bs A ∧ GS w w5 zt b (Bs (j + 1)) (.slice ao2 (j + 1) cap2) (j + 1) A) := ⟨_, _, b, HNX.out B 0 (Or.inr ⟨HYR.out, Or.inr ⟨HK1.out, false, ⟨R, HO.out, Or.inr ⟨rfl, rfl⟩⟩, by simp⟩⟩), by show GS w w5 zt b (if j + 1 = j + 1 then B else Bs (j + 1)) _ _ _; rw [if_pos rfl]; exact hG2⟩
          clear hrun hG2 HG HNX HYR HO HOW HSM HZ HK HK1
          go_wp2_with (first | (at_builtin; refine wpList_app (.tmp 64) (.tmp 66) 26 (by rfl) ?_; refine ⟨_, _, HRN.out, ?_⟩) | fail)
          go_roundw
          case rel => exact ⟨j + 1, by omega, by go_num, HN.out⟩
          case measure => simp [intOf]; omega
        · obtain ⟨q0, q1⟩ := get2 HZ.out
          obtain ⟨t0, t1⟩ := get2 HG.out.tab.box
          have f0 := HG.out.tab.box.frozen 0
          have f1 := HG.out.tab.box.frozen 1
          have HG3 : Hid (GS w ((wq.setCell ⟨zt, 0, none⟩ (.slice b3.a1 R.n b3.c1)).setCell ⟨zt, 1, none⟩ (.slice b3.a2 R.D.n b3.c2)) zt b3 R v j A) := HG.out.upd HOW.out (fun x hx => hx) HSM.out
          go_upto_region 20 with fail
          clear q0 q1 t0 t1 f0 f1
          generalize ((wq.setCell ⟨zt, 0, none⟩ (.slice b3.a1 R.n b3.c1)).setCell ⟨zt, 1, none⟩ (.slice b3.a2 R.D.n b3.c2)) = wq2 at *
          obtain ⟨ao2, cap2, w5, hrun, hG2⟩ := GS.push HG3.out (by omega) 1
          have HRN : Hid _ := hrun
          have HN : Hid (∃ Bs A b, Plays (newB k0) F (j + 1) Bs A ∧ GS w w5 zt b (Bs (j + 1)) (.slice ao2 (j + 1) cap2) (j + 1) A) := ⟨_, _, b3, HNX.out R 1 (Or.inr ⟨HYR.out, Or.inr ⟨HK1.out, true, ⟨R, HO.out, Or.inl ⟨rfl, rfl⟩⟩, by simp⟩⟩), by show GS w w5 zt b3 (if j + 1 = j + 1 then R else Bs (j + 1)) _ _ _; rw [if_pos rfl]; exact hG2⟩
          clear hrun hG2 HG HG3 HNX HYR HO HOW HSM HZ HK HK1
          go_wp2_with (first | (at_builtin; refine wpList_app (.tmp 64) (.tmp 66) 26 (by rfl) ?_; refine ⟨_, _, HRN.out, ?_⟩) | fail)
          go_roundw
          case rel => exact ⟨j + 1, by omega, by go_num, HN.out⟩
          case measure => simp [intOf]; omega
    · obtain rfl : j = n := by omega
      obtain ⟨ao3, cap3, hv, hown⟩ := HG.out.own (by omega)
      have FIN : Hid (GivesI (ppO k0 j F) w (.returned (.tuple #[.slice ao3 j cap3, .bool true])) wr) := ⟨ao3, j, cap3, A, true, rfl, Or.inl ⟨HY.out, rfl, rfl, Bs, A, HP.out, fun i hi => rfl⟩, hn, hown, HG.out.blw⟩
      subst hv
      clear hown HG HP HL HY
      go_wp2
      exact bodyPost_ret (v := .tuple #[.slice ao3 j cap3, .bool true]) (by simp [results, Try.results19, go_sem]) rfl FIN.out
end Go.Proofs.Ytbpdopcdhnemfaa
/- A walker that is played: the program's. -/
namespace Go.Proofs.Ytbpdopcdhnemfaa
open Go.RowKit
set_option linter.unusedSimpArgs false
set_option linter.unusedVariables false

theorem cntK_lt {k n : Nat} (h : k < n) : cntK k n = n - 1 := by unfold cntK; rw [if_neg (by omega)]
theorem cntK_ge {n : Nat} : cntK n n = n := by unfold cntK; rw [if_pos (Nat.le_refl _)]
theorem dropK_ge {n i c : Nat} {F : Nat → Nat → Int} (h : i < n) : F i c = dropK n F i c := by unfold dropK; rw [if_pos h]
theorem walkW_any (E : Nat → Prop) (zw : Nat) (v : KV) (D : KD) (a y : Int) (w : World) (hG : WG D) (ha : pgOK a) (hE : ∀ x, E x → x < w.heap.size) (h : WK E w zw v D) :
    Calls Try.prog 147 #[.pointer (some ⟨zw, 0, none⟩), .int .i64 a, .int .i64 y] w fun e w' => ∃ v' R x, e = .returned (.int .i64 x) ∧ WLK D a y R x ∧ WK E w' zw v' R ∧ Mod (fun x => x = zw) w w' := by
  obtain ⟨x, rfl, hx⟩ := pg_nat' ha
  obtain ⟨k, hat⟩ := hG.pos (x : Int)
  have hn := hG.n4
  by_cases hk : k < D.n
  · obtain ⟨e0, e1, e2, e3⟩ := hG.known hat hk
    rw [Int.toNat_natCast] at e1 e2 e3
    refine (walkW_yes E zw k x v D y w hG hx hE hk hat h).mono ?_
    rintro e w' ⟨v', z, rfl, ho, hw, hm⟩
    rw [e0, e1, e2] at hw
    rw [e1, e2] at ho
    refine ⟨v', _, z, rfl, ⟨k, hat, rfl, by rw [Int.toNat_natCast]; exact ho⟩, ?_, hm⟩
    unfold wlkR
    rw [Int.toNat_natCast, if_neg e3, if_pos hk, cntK_lt hk, show min (1 + (D.n - 1)) 4 = D.n by omega]
    exact hw
  · obtain rfl : k = D.n := by have := hat.1; omega
    refine (walkW_no E zw x v D y w _ _ rfl rfl hG hx hE hat h).mono ?_
    rintro e w' ⟨v', z, rfl, ho, hw, hm⟩
    refine ⟨v', _, z, rfl, ⟨D.n, hat, rfl, by rw [Int.toNat_natCast]; exact ho⟩, ?_, hm⟩
    unfold wlkR
    rw [Int.toNat_natCast]
    rcases hw with ⟨h0, hw⟩ | ⟨h0, k, hk2, hw⟩
    · rw [if_pos h0]; exact hw
    · rw [if_neg h0, if_neg (Nat.lt_irrefl _), cntK_ge, ← hk2]
      refine hw.same (fun i c hi hc => ?_)
      replace hi : i < k := hi
      match i, hi with
      | 0, _ => rfl
      | i + 1, hi => simp only [consK_s]; exact dropK_ge (by omega)
theorem takeW_any (E : Nat → Prop) (zw k : Nat) (v : KV) (D : KD) (a : Int) (w : World) (hn : D.n ≤ 4) (hE : ∀ x, E x → x < w.heap.size) (hat : AtK D a k) (h : WK E w zw v D) :
    Calls Try.prog 149 #[.pointer (some ⟨zw, 0, none⟩), .int .i64 a] w fun e w' => ∃ v' u, e = .returned u ∧ WK E w' zw v' ⟨D.B, cntK k D.n, dropK k D.F, D.h⟩ ∧ Mod (fun x => x = zw) w w' := by
  by_cases hk : k < D.n
  · refine (take_yes zw k a v D _ _ (fun b hb => hb.1.2.2) (fun b hb => hb.1.2.1) hk ((hat.2 k hk).2 rfl) (fun j hj e => by have := (hat.2 j (by omega)).1 e; omega) (by omega) h.room h.cap h.box h.own).mono ?_
    rintro e w1 ⟨rfl, a1, c1, r1, k1, rm1, cp1, m1⟩
    exact ⟨_, _, rfl, by rw [cntK_lt hk]; exact h.put hE r1 k1 rm1 cp1 m1, m1⟩
  · obtain rfl : k = D.n := by have := hat.1; omega
    refine (take_no zw a v D _ _ (fun j hj e => by have := (hat.2 j hj).1 e; omega) h.box h.own).mono ?_
    rintro e w1 ⟨rfl, hb⟩
    exact ⟨v, _, rfl, by rw [cntK_ge]; exact (h.blw hb).same (fun i c hi _ => dropK_ge hi), hb.mod _⟩
/-- The blocks of E, and that of the short ways. -/
def EK (E : Nat → Prop) (v : KV) (D : KD) : Nat → Prop := fun x => E x ∨ (0 < D.n ∧ v.a = some ⟨x, 0, none⟩)
theorem WK.ek {E : Nat → Prop} {w : World} {zw : Nat} {v : KV} {D : KD} (h : WK E w zw v D) (hE : ∀ x, E x → x < w.heap.size) : ∀ x, EK E v D x → x < w.heap.size := by
  rintro x (e | ⟨h0, e⟩)
  · exact hE x e
  · obtain ⟨b, hb, e2, -⟩ := h.own.2 (by omega)
    rw [e] at e2; cases e2
    exact hb.1.2.1
theorem WK.tw {E : Nat → Prop} {w : World} {zw : Nat} {v : KV} {D : KD} (h : WK E w zw v D) : TW (.slice v.a D.n v.q) (.int .i64 D.h) (EK E v D) w zw v.b D.B :=
  ⟨h.box, h.tab.mono (fun x hx => ⟨fun e => e.elim hx.1.1 hx.2, hx.1.2⟩)⟩
theorem WK.tabs {E : Nat → Prop} {w w' : World} {zw : Nat} {v : KV} {D : KD} {b : BV} {R : BD} (h : WK E w zw v D) (ht : TW (.slice v.a D.n v.q) (.int .i64 D.h) (EK E v D) w' zw b R) (m : Mod (fun x => x = zw) w w') : WK E w' zw ⟨b, v.a, v.q⟩ ⟨R, D.n, D.F, D.h⟩ :=
  ⟨ht.box, ht.at_.mono (fun x hx => ⟨⟨fun e => hx.1 (Or.inl e), hx.2⟩, fun e => hx.1 (Or.inr e)⟩), (h.own.mod m (fun x hx e => hx.1.2.2 e)).mono (fun x hx => up3 m.size hx), h.room, h.cap⟩
/-- A good walker in its box. -/
structure WS (E : Nat → Prop) (wr : World) (zt : Nat) (b : KV) (B : KD) : Prop where
  w : WK E wr zt b B
  g : WG B
theorem WS.box {E : Nat → Prop} {wr : World} {zt : Nat} {b : KV} {B : KD} (h : WS E wr zt b B) : Row wr zt 4 (kb b B) := h.w.box
theorem WS.blw {E : Nat → Prop} {zt : Nat} {wr w' : World} {b : KV} {B : KD} (h : WS E wr zt b B) (hb : Blw wr w') : WS E w' zt b B := ⟨h.w.blw hb, h.g⟩
theorem WS.mod {Q E : Nat → Prop} {zt : Nat} {wr w' : World} {b : KV} {B : KD} (h : WS E wr zt b B) (hm : Mod Q wr w') (hz : ¬ Q zt) (hq : ∀ x, Q x → E x) : WS E w' zt b B := ⟨h.w.mod hm hz (fun x hx => Or.inl (hq x hx)), h.g⟩
theorem WS.grow {E : Nat → Prop} {zt : Nat} {w w' : World} {b : KV} {B : KD} (h : WS E w zt b B) (hA : Blw w w') : WS (fun x => E x ∨ x = w.heap.size) w' zt b B :=
  ⟨⟨h.w.box.blw hA, (h.w.tab.blw hA).mono (fun x hx => ⟨⟨fun e => e.elim hx.1.1 (fun e => by have := hx.1.2.1; omega), Nat.lt_of_lt_of_le hx.1.2.1 hA.size, hx.1.2.2⟩, hx.2⟩), (h.w.own.blw hA).mono (fun x hx => ⟨⟨fun e => e.elim hx.1.1 (fun e => by have := hx.1.2.1; omega), Nat.lt_of_lt_of_le hx.1.2.1 hA.size, hx.1.2.2⟩, hx.2⟩), h.w.room, h.w.cap⟩, h.g⟩
theorem WS.less {E : Nat → Prop} {zt z : Nat} {w : World} {b : KV} {B : KD} (h : WS (fun x => E x ∨ x = z) w zt b B) : WS E w zt b B :=
  ⟨⟨h.w.box, h.w.tab.mono (fun x hx => ⟨⟨fun e => hx.1.1 (Or.inl e), hx.1.2⟩, hx.2⟩), h.w.own.mono (fun x hx => ⟨⟨fun e => hx.1.1 (Or.inl e), hx.1.2⟩, hx.2⟩), h.w.room, h.w.cap⟩, h.g⟩
set_option maxRecDepth 10000 in
set_option maxHeartbeats 6400000 in
theorem stepW_any (E : Nat → Prop) (zt : Nat) (b : KV) (B : KD) (k a g y : Int) (w : World) (hr : rightS k a g y) (hE : ∀ x, E x → x < w.heap.size) (h : WS E w zt b B) :
    Calls Try.prog 83 #[.pointer (some ⟨zt, 0, none⟩), .agg #[.int .i64 k, .int .i64 a, .int .i64 g, .int .i64 y]] w fun e w' => ∃ b' R v, e = .returned (.int .i64 v) ∧ WSO B k a g y R v ∧ WS E w' zt b' R ∧ Mod (fun x => x = zt) w w' := by
  have hA : Blw w (w.alloc (.cells #[.int .i64 k, .int .i64 a, .int .i64 g, .int .i64 y] 42)) := (Blw.refl _).alloc _
  have HT : Hid (WS E (w.alloc (.cells #[.int .i64 k, .int .i64 a, .int .i64 g, .int .i64 y] 42)) zt b B) := h.blw hA
  have HS : Hid (Row (w.alloc (.cells #[.int .i64 k, .int .i64 a, .int .i64 g, .int .i64 y] 42)) w.heap.size 4 (fun i => if i = 0 then .int .i64 k else if i = 1 then .int .i64 a else if i = 2 then .int .i64 g else .int .i64 y)) := box4 w _ _ _ _ 42
  have HB : Hid (Blw w (w.alloc (.cells #[.int .i64 k, .int .i64 a, .int .i64 g, .int .i64 y] 42))) := hA
  have HRI : Hid (rightS k a g y) := hr
  have HSZ : Hid (w.heap.size ≤ (w.alloc (.cells #[.int .i64 k, .int .i64 a, .int .i64 g, .int .i64 y] 42)).heap.size) := hA.size
  have HZT : Hid (zt < w.heap.size) := h.box.lt
  clear h hA hr
  go_enter Try.func83, Try.ntmps83
  obtain ⟨s0, s1, s2, s3⟩ := get4 HS.out
  by_cases k1 : k = 1
  · subst k1
    go_wp2_with fail
    clear s0 s1 s2 s3
    generalize w.alloc (.cells #[.int .i64 1, .int .i64 a, .int .i64 g, .int .i64 y] 42) = wp at *
    refine (walkW_any E zt b B a y _ HT.out.g HRI.out.1 (fun x hx => Nat.lt_of_lt_of_le (hE x hx) HSZ.out) HT.out.w).mono ?_
    rintro e w2 ⟨b2, R, v, rfl, ho, ht, hm⟩
    have FIN : Hid (WSO B 1 a g y R v ∧ WS E w2 zt b2 R ∧ Mod (fun x => x = zt) w w2) := ⟨Or.inl ⟨rfl, ho⟩, ⟨ht, HT.out.g.walk HRI.out.1 ho⟩, (HB.out.mod _).trans hm⟩
    clear ho ht hm HS HB HT HSZ
    go_wp2
    exact bodyPost_ret (v := .int .i64 v) (by simp [results, Try.results83, go_sem]) rfl ⟨_, _, _, rfl, FIN.out⟩
  · have d1 : (k == 1) = false := by simp [k1]
    have HK1 : Hid (¬ k = 1) := k1
    have HK : Hid (k = 2 ∨ k = 3 ∨ k = 4) := right_k HRI.out k1
    clear k1
    go_upto_region 3 with fail
    clear s0 s1 s2 s3 d1
    generalize w.alloc (.cells #[.int .i64 k, .int .i64 a, .int .i64 g, .int .i64 y] 42) = wp at *
    replace HT : Hid (WS E wp.drew zt b B) := HT.out.blw (Blw.refl _).drew
    replace HS : Hid (Row wp.drew w.heap.size 4 (fun i => if i = 0 then .int .i64 k else if i = 1 then .int .i64 a else if i = 2 then .int .i64 g else .int .i64 y)) := HS.out.blw (Blw.refl _).drew
    replace HB : Hid (Blw w wp.drew) := HB.out.drew
    replace HSZ : Hid (w.heap.size ≤ wp.drew.heap.size) := HB.out.size
    have P1 : ∀ w', Row w' w.heap.size 4 (fun i => if i = 0 then .int .i64 k else if i = 1 then .int .i64 a else if i = 2 then .int .i64 g else .int .i64 y) → w'.cell? ⟨w.heap.size, 0, none⟩ = some (.int .i64 k) ∧ w'.cell? ⟨w.heap.size, 1, none⟩ = some (.int .i64 a) ∧ w'.cell? ⟨w.heap.size, 2, none⟩ = some (.int .i64 g) ∧ w'.cell? ⟨w.heap.size, 3, none⟩ = some (.int .i64 y) := fun w' hh => get4 hh
    refine wp_region_noPanic ?_
    refine wp_region_held_drew (S := (fun w' => Row w' w.heap.size 4 (fun i => if i = 0 then .int .i64 k else if i = 1 then .int .i64 a else if i = 2 then .int .i64 g else .int .i64 y))) (by kernel_rfl) HS.out (fun hB => ?_)
    clear hB
    generalize wp.drew = wd at *
    refine wpAnyH_take (i := 0) (oi := { dst := some 15, op := Op.move (Operand.tmp 0), type := 180, pos := _, after := #[], guard := none }) (v := (.pointer (some ⟨zt, 0, none⟩))) rfl (by kernel_rfl) (by kernel_rfl) (by kernel_rfl) (fun _ _ _ h => h) (Or.inl ⟨by rfl, fun w' hS => by (try dsimp only at hS); go_simp⟩) HS.out ?_
    simp only [Act.put, List.setIfInBounds_toArray, List.set_cons_zero, List.set_cons_succ]
    refine wpAnyH_take (i := 3) (oi := { dst := some 18, op := Op.load 42 (Operand.tmp 3), type := 42, pos := _, after := #[], guard := none }) (v := (.agg #[.int .i64 k, .int .i64 a, .int .i64 g, .int .i64 y])) rfl (by kernel_rfl) (by kernel_rfl) (by kernel_rfl) (fun _ _ _ h => h) (Or.inl ⟨by rfl, fun w' hS => by (try dsimp only at hS); go_simp⟩) HS.out ?_
    simp only [Act.put, List.setIfInBounds_toArray, List.set_cons_zero, List.set_cons_succ]
    refine wpAnyH_take (i := 1) (oi := { dst := some 16, op := Op.nilCheck (Operand.tmp 15), type := 0, pos := _, after := #[{ on := 0, ground := Ground.data }], guard := none }) (v := (.pointer (some ⟨zt, 0, none⟩))) rfl (by kernel_rfl) (by kernel_rfl) (by kernel_rfl) (fun _ _ _ h => h) (Or.inl ⟨by rfl, fun w' hS => by (try dsimp only at hS); go_simp⟩) HS.out ?_
    simp only [Act.put, List.setIfInBounds_toArray, List.set_cons_zero, List.set_cons_succ]
    refine wpAnyH_take (i := 2) (oi := { dst := some 17, op := Op.fieldAddr 32 (Operand.tmp 16) 0, type := 0, pos := _, after := #[{ on := 1, ground := Ground.data }], guard := none }) (v := (.pointer (some ⟨zt, 0, none⟩))) rfl (by kernel_rfl) (by kernel_rfl) (by kernel_rfl) (fun _ _ _ h => h) (Or.inl ⟨by rfl, fun w' hS => by (try dsimp only at hS); go_simp⟩) HS.out ?_
    simp only [Act.put, List.setIfInBounds_toArray, List.set_cons_zero, List.set_cons_succ]
    refine wpAnyH_ready (rs := [4]) (by kernel_rfl) (by simp) ?_
    refine AllReadyH.cons (o := { dst := some 19, op := Op.call { callee := Callee.value (Operand.func 148), args := #[Operand.tmp 17, Operand.tmp 18], argTypes := #[120, 42] }, type := 4, pos := _, after := #[{ on := 2, ground := Ground.data }, { on := 3, ground := Ground.data }], guard := none }) rfl (fun K hK => ?_) AllReadyH.nil
    go_simp
    refine (changeW_any (.slice b.a B.n b.q) (.int .i64 B.h) (EK E b B) zt b.b B.B k a g y _ HK.out (HT.out.w.ek (fun x hx => Nat.lt_of_lt_of_le (hE x hx) HSZ.out)) HT.out.w.tw).mono ?_
    rintro e w2 ⟨bt, RB, r, rfl, ho, ht, hm⟩
    have HO : Hid (ctO B.B k a g y RB r) := ho
    have HT2 : Hid (WK E w2 zt ⟨bt, b.a, b.q⟩ ⟨RB, B.n, B.F, B.h⟩) := HT.out.w.tabs ht hm
    replace HS : Hid (Row w2 w.heap.size 4 (fun i => if i = 0 then .int .i64 k else if i = 1 then .int .i64 a else if i = 2 then .int .i64 g else .int .i64 y)) := HS.out.mod hm (by have := HZT.out; omega)
    have HM : Hid (Mod (fun x => x = zt) w w2) := (HB.out.mod _).trans hm
    have HG : Hid (WG B) := HT.out.g
    clear ho ht hm HT HB
    refine hK.out _ _ HS.out (fun hB => ?_)
    clear hK K hB
    try simp only [Act.put, List.setIfInBounds_toArray, List.set_cons_zero, List.set_cons_succ]
    refine wpAnyH_take (i := 5) (oi := { dst := some 5, op := Op.assign (Operand.tmp 19), type := 4, pos := _, after := #[{ on := 4, ground := Ground.data }, { on := 4, ground := Ground.chain }, { on := 0, ground := Ground.phase }, { on := 1, ground := Ground.phase }, { on := 2, ground := Ground.phase }, { on := 3, ground := Ground.phase }, { on := 4, ground := Ground.phase }], guard := none }) (v := (.bool r)) rfl (by kernel_rfl) (by kernel_rfl) (by kernel_rfl) (fun _ _ _ h => h) (Or.inl ⟨by rfl, fun w' hS => by (try dsimp only at hS); go_simp⟩) HS.out ?_
    simp only [Act.put, List.setIfInBounds_toArray, List.set_cons_zero, List.set_cons_succ]
    refine wpAnyH_done (by kernel_rfl) ?_ _
    refine NoPanic.normal ?_
    clear P1
    cases r
    · have FIN : Hid (WSO B k a g y B 0 ∧ WS E w2 zt ⟨bt, b.a, b.q⟩ B ∧ Mod (fun x => x = zt) w w2) := by
        obtain ⟨R0, h1, ⟨e, -⟩ | ⟨-, e⟩⟩ := HO.out
        · cases e
        · subst e
          exact ⟨Or.inr ⟨HK1.out, B.B, false, HO.out, Or.inr ⟨rfl, rfl, rfl⟩⟩, ⟨HT2.out, HG.out⟩, HM.out⟩
      clear HS HO HT2 HM HG HRI HK1 HK HSZ HZT
      go_wp2_with fail
      refine (answerOf_any 0 false _ (by omega)).mono ?_
      rintro e w4 ⟨rfl, rfl⟩
      go_wp2
      exact bodyPost_ret (v := .int .i64 0) (by simp [results, Try.results83, go_sem]) rfl ⟨_, _, _, rfl, FIN.out⟩
    obtain ⟨s0, s1, s2, s3⟩ := get4 HS.out
    go_wp2_with fail
    clear s0 s1 s2 s3
    obtain ⟨q, hat⟩ := HG.out.pos a
    refine (takeW_any E zt q ⟨bt, b.a, b.q⟩ ⟨RB, B.n, B.F, B.h⟩ a _ HG.out.n4 (fun x hx => by have := hE x hx; have := HM.out.size; omega) hat HT2.out).mono ?_
    rintro e w3 ⟨v3, u, rfl, hw3, hm3⟩
    have FIN : Hid (WSO B k a g y ⟨RB, cntK q B.n, dropK q B.F, B.h⟩ 1 ∧ WS E w3 zt v3 ⟨RB, cntK q B.n, dropK q B.F, B.h⟩ ∧ Mod (fun x => x = zt) w w3) := ⟨Or.inr ⟨HK1.out, RB, true, HO.out, Or.inl ⟨rfl, rfl, q, hat, rfl⟩⟩, ⟨hw3, HG.out.change HK.out HO.out hat⟩, HM.out.trans hm3⟩
    clear HS HO HT2 HM HG HRI HK1 HK HSZ HZT hw3 hm3 hat
    go_wp2_with fail
    refine (answerOf_any 0 true _ (by omega)).mono ?_
    rintro e w4 ⟨rfl, rfl⟩
    go_wp2
    exact bodyPost_ret (v := .int .i64 1) (by simp [results, Try.results83, go_sem]) rfl ⟨_, _, _, rfl, FIN.out⟩
set_option maxHeartbeats 1600000 in
theorem playW_any (E : Nat → Prop) (zt : Nat) (b : KV) (B : KD) (k a g y : Int) (w : World) (hr : rightS k a g y) (hE : ∀ x, E x → x < w.heap.size) (h : WS E w zt b B) :
    Calls Try.prog 82 #[.agg #[.int .i64 k, .int .i64 a, .int .i64 g, .int .i64 y], .pointer (some ⟨zt, 0, none⟩)] w fun e w' => ∃ b' R v, e = .returned (.int .i64 v) ∧ WSO B k a g y R v ∧ WS E w' zt b' R ∧ Mod (fun x => x = zt) w w' := by
  have hA : Blw w (w.alloc (.cells #[.int .i64 k, .int .i64 a, .int .i64 g, .int .i64 y] 42)) := (Blw.refl _).alloc _
  have HT : Hid (WS E (w.alloc (.cells #[.int .i64 k, .int .i64 a, .int .i64 g, .int .i64 y] 42)) zt b B) := h.blw hA
  have HS : Hid (Row (w.alloc (.cells #[.int .i64 k, .int .i64 a, .int .i64 g, .int .i64 y] 42)) w.heap.size 4 (fun i => if i = 0 then .int .i64 k else if i = 1 then .int .i64 a else if i = 2 then .int .i64 g else .int .i64 y)) := box4 w _ _ _ _ 42
  have HB : Hid (Blw w (w.alloc (.cells #[.int .i64 k, .int .i64 a, .int .i64 g, .int .i64 y] 42))) := hA
  have HSZ : Hid (w.heap.size ≤ (w.alloc (.cells #[.int .i64 k, .int .i64 a, .int .i64 g, .int .i64 y] 42)).heap.size) := by show _ ≤ _; simp
  clear h hA
  go_enter Try.func82, Try.ntmps82
  obtain ⟨s0, s1, s2, s3⟩ := get4 HS.out
  go_wp2_with fail
  clear s0 s1 s2 s3
  generalize w.alloc (.cells #[.int .i64 k, .int .i64 a, .int .i64 g, .int .i64 y] 42) = wp at *
  refine (stepW_any E zt b B k a g y _ hr (fun x hx => Nat.lt_of_lt_of_le (hE x hx) HSZ.out) HT.out).mono ?_
  rintro e w2 ⟨b2, R, v, rfl, ho, ht, hm⟩
  have FIN : Hid (∃ b' R' v', Ending.returned (.int .i64 v) = .returned (.int .i64 v') ∧ WSO B k a g y R' v' ∧ WS E w2 zt b' R' ∧ Mod (fun x => x = zt) w w2) := ⟨b2, R, v, rfl, ho, ht, (HB.out.mod _).trans hm⟩
  clear ho ht hm HS HB HT HSZ
  go_wp2
  go_ret
  exact FIN.out
set_option maxRecDepth 10000 in
set_option maxHeartbeats 1600000 in
theorem answerW_any (E : Nat → Prop) (zt zf : Nat) (b : KV) (B : KD) (k a g y : Int) (w : World) (hE : ∀ x, E x → x < w.heap.size) (h : WS E w zt b B) (hf : Row w zf 1 (fun _ => .func (.func 82) #[] #[.pointer (some ⟨zt, 0, none⟩)])) :
    Calls Try.prog 146 #[.agg #[.int .i64 k, .int .i64 a, .int .i64 g, .int .i64 y], .pointer (some ⟨zf, 0, none⟩)] w fun e w' => ∃ b' R v, e = .returned (.int .i64 v) ∧ WSF B k a g y R v ∧ WS E w' zt b' R ∧ Mod (fun x => x = zt) w w' := by
  have hA : Blw w (w.alloc (.cells #[.int .i64 k, .int .i64 a, .int .i64 g, .int .i64 y] 42)) := (Blw.refl _).alloc _
  have HT : Hid (WS E (w.alloc (.cells #[.int .i64 k, .int .i64 a, .int .i64 g, .int .i64 y] 42)) zt b B) := h.blw hA
  have HS : Hid (Row (w.alloc (.cells #[.int .i64 k, .int .i64 a, .int .i64 g, .int .i64 y] 42)) w.heap.size 4 (fun i => if i = 0 then .int .i64 k else if i = 1 then .int .i64 a else if i = 2 then .int .i64 g else .int .i64 y)) := box4 w _ _ _ _ 42
  have HF : Hid (Row (w.alloc (.cells #[.int .i64 k, .int .i64 a, .int .i64 g, .int .i64 y] 42)) zf 1 (fun _ => .func (.func 82) #[] #[.pointer (some ⟨zt, 0, none⟩)])) := hf.blw hA
  have HB : Hid (Blw w (w.alloc (.cells #[.int .i64 k, .int .i64 a, .int .i64 g, .int .i64 y] 42))) := hA
  have HSZ : Hid (w.heap.size ≤ (w.alloc (.cells #[.int .i64 k, .int .i64 a, .int .i64 g, .int .i64 y] 42)).heap.size) := by show _ ≤ _; simp
  clear h hA hf
  go_enter Try.func146, Try.ntmps146
  obtain ⟨s0, s1, s2, s3⟩ := get4 HS.out
  go_wp2_with fail
  clear s0 s1 s2 s3
  generalize w.alloc (.cells #[.int .i64 k, .int .i64 a, .int .i64 g, .int .i64 y] 42) = wp at *
  refine (isStep_any k a g y _).mono ?_
  rintro e w1 ⟨r, rfl, hr, hb1⟩
  have HR : Hid (r = true ↔ rightS k a g y) := hr
  replace HT : Hid (WS E w1 zt b B) := HT.out.blw hb1
  replace HS : Hid (Row w1 w.heap.size 4 (fun i => if i = 0 then .int .i64 k else if i = 1 then .int .i64 a else if i = 2 then .int .i64 g else .int .i64 y)) := HS.out.blw hb1
  replace HF : Hid (Row w1 zf 1 (fun _ => .func (.func 82) #[] #[.pointer (some ⟨zt, 0, none⟩)])) := HF.out.blw hb1
  replace HB : Hid (Blw w w1) := HB.out.trans hb1
  replace HSZ : Hid (w.heap.size ≤ w1.heap.size) := Nat.le_trans HSZ.out hb1.size
  clear hr hb1
  cases r
  · have HN : Hid (¬ rightS k a g y) := fun q => by have := HR.out.2 q; simp at this
    have FIN : Hid (∃ b' R' v', Ending.returned (.int .i64 (-1)) = .returned (.int .i64 v') ∧ WSF B k a g y R' v' ∧ WS E w1 zt b' R' ∧ Mod (fun x => x = zt) w w1) := ⟨b, B, -1, rfl, Or.inl ⟨HN.out, rfl, rfl⟩, HT.out, HB.out.mod _⟩
    clear HR HT HS HF HB HSZ HN
    go_wp2
    go_ret
    exact FIN.out
  have HY : Hid (rightS k a g y) := HR.out.1 (by first | rfl | trivial)
  clear HR
  obtain ⟨s0, s1, s2, s3⟩ := get4 HS.out
  have hfc := HF.out.cell (i := 0) (by omega)
  go_wp2_with fail
  clear s0 s1 s2 s3 hfc
  refine (playW_any E zt b B k a g y _ HY.out (fun x hx => Nat.lt_of_lt_of_le (hE x hx) HSZ.out) HT.out).mono ?_
  rintro e w2 ⟨b2, R, v, rfl, ho, ht, hm⟩
  have FIN : Hid (∃ b' R' v', Ending.returned (.int .i64 v) = .returned (.int .i64 v') ∧ WSF B k a g y R' v' ∧ WS E w2 zt b' R' ∧ Mod (fun x => x = zt) w w2) := ⟨b2, R, v, rfl, Or.inr ⟨HY.out, ho⟩, ht, (HB.out.mod _).trans hm⟩
  clear ho ht hm HS HB HT HSZ HF HY
  go_wp2
  go_ret
  exact FIN.out
set_option maxRecDepth 10000 in
set_option maxHeartbeats 6400000 in
theorem eachW_any (E : Nat → Prop) (zt zf : Nat) (b : KV) (B : KD) (ao : Option Addr) (n c : Nat) (F : Nat → Nat → Int) (w : World) (hn : n ≤ 1048576) (hE : ∀ x, E x → x < w.heap.size) (hzf : zf ≠ zt) (h : WS E w zt b B) (hf : Row w zf 1 (fun _ => .func (.func 82) #[] #[.pointer (some ⟨zt, 0, none⟩)])) (hl : KAt 4 (fun x => x < w.heap.size ∧ x ≠ zt) w ao n F) :
    Calls Try.prog 145 #[.slice ao n c, .func (.func 146) #[] #[.pointer (some ⟨zf, 0, none⟩)]] w fun e w' => ∃ Bs A b', e = .returned (.slice (some ⟨w.heap.size, 0, none⟩) n n) ∧ WPlays B F n Bs A ∧ Row w' w.heap.size n (plRow n n A) ∧ WS (fun x => E x ∨ x = w.heap.size) w' zt b' (Bs n) ∧ Mod (fun x => x = zt) w w' := by
  have hmk := mkInts n hn
  have hA : Blw w (w.alloc (.cells (madeCells #[.int .i64 0] n) 3)) := (Blw.refl _).alloc _
  have HT : Hid (WS (fun x => E x ∨ x = w.heap.size) (w.alloc (.cells (madeCells #[.int .i64 0] n) 3)) zt b B) := h.grow hA
  have HR : Hid (Row (w.alloc (.cells (madeCells #[.int .i64 0] n) 3)) w.heap.size n (plRow n 0 (fun _ => 0))) := (Row.made w (.int .i64 0) n 3).congr (fun i hi => by unfold plRow; simp)
  have HF : Hid (Row (w.alloc (.cells (madeCells #[.int .i64 0] n) 3)) zf 1 (fun _ => .func (.func 82) #[] #[.pointer (some ⟨zt, 0, none⟩)])) := hf.blw hA
  have HM : Hid (Mod (fun x => x = zt) w (w.alloc (.cells (madeCells #[.int .i64 0] n) 3))) := hA.mod _
  have HL : Hid (KAt 4 (fun x => x < w.heap.size ∧ x ≠ zt) w ao n F) := hl
  have hzt := h.box.lt
  have hzfl := hf.lt
  clear h hf hl hA
  go_enter Try.func145, Try.ntmps145
  go_wp2_with fail
  clear hmk
  generalize w.alloc (.cells (madeCells #[.int .i64 0] n) 3) = W at *
  go_loopw [13] (fun i wr => ∃ j : Nat, j ≤ n ∧ i = .int .i64 j ∧ ∃ Bs A b', WPlays B F j Bs A ∧ Row wr w.heap.size n (plRow n j A) ∧ WS (fun x => E x ∨ x = w.heap.size) wr zt b' (Bs j) ∧ Row wr zf 1 (fun _ => .func (.func 82) #[] #[.pointer (some ⟨zt, 0, none⟩)]) ∧ Mod (fun x => x = zt) w wr) (fun i _ => n - (intOf i).toNat)
  case atStart => exact ⟨0, Nat.zero_le _, rfl, fun _ => B, fun _ => 0, b, ⟨rfl, fun i hi => absurd hi (Nat.not_lt_zero _)⟩, HR.out, HT.out, HF.out, HM.out⟩
  case round =>
    clear HR HT HF HM
    obtain ⟨j, hj, rfl, Bs, A, b1, hP, hR, hT, hF, hM⟩ := hrel
    have HP : Hid (WPlays B F j Bs A) := hP
    have HM : Hid (Mod (fun x => x = zt) w wr) := hM
    by_cases hlt : j < n
    · have hlt' : (j : Int) < (n : Int) := by omega
      have hA2 : Blw wr (wr.alloc (.cells #[.int .i64 (F j 0), .int .i64 (F j 1), .int .i64 (F j 2), .int .i64 (F j 3)] 42)) := (Blw.refl _).alloc _
      have HT : Hid (WS (fun x => E x ∨ x = w.heap.size) (wr.alloc (.cells #[.int .i64 (F j 0), .int .i64 (F j 1), .int .i64 (F j 2), .int .i64 (F j 3)] 42)) zt b1 (Bs j)) := hT.blw hA2
      have HR : Hid (Row (wr.alloc (.cells #[.int .i64 (F j 0), .int .i64 (F j 1), .int .i64 (F j 2), .int .i64 (F j 3)] 42)) w.heap.size n (plRow n j A)) := hR.blw hA2
      have HF : Hid (Row (wr.alloc (.cells #[.int .i64 (F j 0), .int .i64 (F j 1), .int .i64 (F j 2), .int .i64 (F j 3)] 42)) zf 1 (fun _ => .func (.func 82) #[] #[.pointer (some ⟨zt, 0, none⟩)])) := hF.blw hA2
      have HS : Hid (Row (wr.alloc (.cells #[.int .i64 (F j 0), .int .i64 (F j 1), .int .i64 (F j 2), .int .i64 (F j 3)] 42)) wr.heap.size 4 (fun i => if i = 0 then .int .i64 (F j 0) else if i = 1 then .int .i64 (F j 1) else if i = 2 then .int .i64 (F j 2) else .int .i64 (F j 3))) := box4 wr _ _ _ _ 42
      have HM2 : Hid (Mod (fun x => x = zt) w (wr.alloc (.cells #[.int .i64 (F j 0), .int .i64 (F j 1), .int .i64 (F j 2), .int .i64 (F j 3)] 42))) := hM.trans (hA2.mod _)
      have hsz := hA2.size
      have HE : Hid (∀ x, (fun x => E x ∨ x = w.heap.size) x → x < (wr.alloc (.cells #[.int .i64 (F j 0), .int .i64 (F j 1), .int .i64 (F j 2), .int .i64 (F j 3)] 42)).heap.size) := fun x hx => by
        have h1 := hR.lt
        rcases hx with h2 | h2
        · have := hE x h2; omega
        · omega
      obtain ⟨bl, o, rfl, -, g⟩ := (HL.out.mod hM (fun x hx e => hx.2 e)).2 j hlt
      have g0 := g 0 (by omega)
      have g1 := g 1 (by omega)
      have g2 := g 2 (by omega)
      have g3 := g 3 (by omega)
      rw [Nat.add_zero] at g0
      clear g hP hR hT hF hM hA2 hsz
      obtain ⟨s0, s1, s2, s3⟩ := get4 HS.out
      have HN : Hid (∀ (R : KD) (v : Int), WSF (Bs j) (F j 0) (F j 1) (F j 2) (F j 3) R v → WPlays B F (j + 1) (fun i => if i = j + 1 then R else Bs i) (fun i => if i = j then v else A i)) := fun R v h1 => HP.out.next h1
      clear HP
      generalize F j 0 = x0 at *
      generalize F j 1 = x1 at *
      generalize F j 2 = x2 at *
      generalize F j 3 = x3 at *
      go_wp2_with fail
      clear s0 s1 s2 s3 g0 g1 g2 g3
      generalize wr.alloc (.cells #[.int .i64 x0, .int .i64 x1, .int .i64 x2, .int .i64 x3] 42) = wp at *
      refine (answerW_any (fun x => E x ∨ x = w.heap.size) zt zf b1 (Bs j) x0 x1 x2 x3 _ HE.out HT.out HF.out).mono ?_
      rintro e w2 ⟨b2, R, v, rfl, ho, ht, hm⟩
      have HN2 : Hid (∃ Bs2 A2 b2', WPlays B F (j + 1) Bs2 A2 ∧ Row (w2.setCell ⟨w.heap.size, j, none⟩ (.int .i64 v)) w.heap.size n (plRow n (j + 1) A2) ∧ WS (fun x => E x ∨ x = w.heap.size) (w2.setCell ⟨w.heap.size, j, none⟩ (.int .i64 v)) zt b2' (Bs2 (j + 1)) ∧ Row (w2.setCell ⟨w.heap.size, j, none⟩ (.int .i64 v)) zf 1 (fun _ => .func (.func 82) #[] #[.pointer (some ⟨zt, 0, none⟩)]) ∧ Mod (fun x => x = zt) w (w2.setCell ⟨w.heap.size, j, none⟩ (.int .i64 v))) := by
        have ms : Mod (fun x => x = w.heap.size) w2 (w2.setCell ⟨w.heap.size, j, none⟩ (.int .i64 v)) := Mod.setCell (X := fun x => x = w.heap.size) _ (p := ⟨w.heap.size, j, none⟩) rfl _
        have hs := ms.size
        have e1 : (if j + 1 = j + 1 then R else Bs (j + 1)) = R := by simp
        refine ⟨_, _, b2, HN.out R v ho, plRow_set (HR.out.mod hm (by omega)), ?_, (HF.out.mod hm hzf).mod ms (by omega), ?_⟩
        · show WS _ _ _ _ (if j + 1 = j + 1 then R else Bs (j + 1))
          rw [e1]
          exact ht.mod ms (by omega) (fun x hx => Or.inr hx)
        · exact modNew (HM2.out.trans hm) ms
      have rz := HR.out.mod hm (by omega)
      obtain ⟨vv, gv⟩ : ∃ v, w2.cell? ⟨w.heap.size, j, none⟩ = some v := ⟨_, rz.cell hlt⟩
      have gz := rz.frozen j
      clear HN ho ht hm HR HF HS HM2 HE HT rz
      go_wp2
      go_roundw
      case rel => exact ⟨j + 1, by omega, by go_num, HN2.out⟩
      case measure => simp [intOf]; omega
    · obtain rfl : j = n := by omega
      have FP : Hid (WPlays B F j Bs A) := hP
      have FR : Hid (Row wr w.heap.size j (plRow j j A)) := hR
      have FT : Hid (WS (fun x => E x ∨ x = w.heap.size) wr zt b1 (Bs j)) := hT
      have FM : Hid (Mod (fun x => x = zt) w wr) := hM
      clear hP hR hT hF hM HP HM
      go_wp2
      exact bodyPost_ret (v := .slice (some ⟨w.heap.size, 0, none⟩) j j) (by simp [results, Try.results145, go_sem]) rfl (by first | exact ⟨rfl, Bs, A, FP.out, FR.out, ⟨b1, FT.out⟩, FM.out⟩ | exact ⟨Bs, A, b1, rfl, FP.out, FR.out, FT.out, FM.out⟩)
set_option maxRecDepth 10000 in
set_option maxHeartbeats 1600000 in
theorem answersToW_any (E : Nat → Prop) (zt : Nat) (b : KV) (B : KD) (ao : Option Addr) (n c : Nat) (F : Nat → Nat → Int) (w : World) (hn : n ≤ 1048576) (hE : ∀ x, E x → x < w.heap.size) (h : WS E w zt b B) (hl : KAt 4 (fun x => x < w.heap.size ∧ x ≠ zt) w ao n F) :
    Calls Try.prog 81 #[.slice ao n c, .func (.func 82) #[] #[.pointer (some ⟨zt, 0, none⟩)]] w fun e w' => ∃ z Bs A b', e = .returned (.slice (some ⟨z, 0, none⟩) n n) ∧ WPlays B F n Bs A ∧ w.heap.size ≤ z ∧ Row w' z n (plRow n n A) ∧ WS (fun x => E x ∨ x = z) w' zt b' (Bs n) ∧ Mod (fun x => x = zt) w w' := by
  have hA : Blw w (w.alloc (.cells #[.func (.func 82) #[] #[.pointer (some ⟨zt, 0, none⟩)]] 114)) := (Blw.refl _).alloc _
  have HT : Hid (WS E (w.alloc (.cells #[.func (.func 82) #[] #[.pointer (some ⟨zt, 0, none⟩)]] 114)) zt b B) := h.blw hA
  have HF : Hid (Row (w.alloc (.cells #[.func (.func 82) #[] #[.pointer (some ⟨zt, 0, none⟩)]] 114)) w.heap.size 1 (fun _ => .func (.func 82) #[] #[.pointer (some ⟨zt, 0, none⟩)])) := box1row w _ _
  have HL : Hid (KAt 4 (fun x => x < (w.alloc (.cells #[.func (.func 82) #[] #[.pointer (some ⟨zt, 0, none⟩)]] 114)).heap.size ∧ x ≠ zt) (w.alloc (.cells #[.func (.func 82) #[] #[.pointer (some ⟨zt, 0, none⟩)]] 114)) ao n F) := (hl.blw hA).mono (fun x hx => ⟨Nat.lt_of_lt_of_le hx.1 hA.size, hx.2⟩)
  have HB : Hid (Blw w (w.alloc (.cells #[.func (.func 82) #[] #[.pointer (some ⟨zt, 0, none⟩)]] 114))) := hA
  have hz := h.box.lt
  have HZ : Hid (w.heap.size ≠ zt) := by show _ ≠ _; omega
  clear h hl hA hz
  go_enter Try.func81, Try.ntmps81
  go_wp2_with fail
  generalize w.alloc (.cells #[.func (.func 82) #[] #[.pointer (some ⟨zt, 0, none⟩)]] 114) = wp at *
  refine (eachW_any E zt w.heap.size b B ao n c F wp hn (fun x hx => Nat.lt_of_lt_of_le (hE x hx) HB.out.size) HZ.out HT.out HF.out HL.out).mono ?_
  rintro e w2 ⟨Bs, A, b2, rfl, hp, hr, ht, hm⟩
  have FIN : Hid (∃ z Bs A b', Ending.returned (.slice (some ⟨wp.heap.size, 0, none⟩) n n) = .returned (.slice (some ⟨z, 0, none⟩) n n) ∧ WPlays B F n Bs A ∧ w.heap.size ≤ z ∧ Row w2 z n (plRow n n A) ∧ WS (fun x => E x ∨ x = z) w2 zt b' (Bs n) ∧ Mod (fun x => x = zt) w w2) := ⟨_, Bs, A, b2, rfl, hp, HB.out.size, hr, ht, (HB.out.mod _).trans hm⟩
  clear hp hr ht hm HT HF HL HB HZ
  go_wp2
  go_ret
  exact FIN.out
end Go.Proofs.Ytbpdopcdhnemfaa
/- PlayWalker, the program's. -/
namespace Go.Proofs.Ytbpdopcdhnemfaa
open Go.RowKit
set_option linter.unusedSimpArgs false
set_option linter.unusedVariables false

/-- What PlayWalker answers. -/
def pwO (k : Int) (n : Nat) (F : Nat → Nat → Int) (D : KD) (N : Nat) (f : Nat → Int) (r : Bool) : Prop :=
  ((cntOK k ∧ n ≤ 60) ∧ r = true ∧ N = n ∧ ∃ Ds A, WPlays (newK k) F n Ds A ∧ D = Ds n ∧ ∀ i, i < n → f i = A i) ∨ (¬ (cntOK k ∧ n ≤ 60) ∧ r = false ∧ N = 0 ∧ D = KD.zero)
theorem pwO_same {k : Int} {n : Nat} {F : Nat → Nat → Int} {D D' : KD} {N N' : Nat} {f f' : Nat → Int} {r r' : Bool} (h : pwO k n F D N f r) (h' : pwO k n F D' N' f' r') : D = D' ∧ N = N' ∧ r = r' ∧ ∀ i, i < N → f i = f' i := by
  rcases h with ⟨g, rfl, rfl, Bs, A, hp, e0, e⟩ | ⟨g, rfl, rfl, e0⟩ <;> rcases h' with ⟨g', rfl, rfl, Bs', A', hp', e0', e'⟩ | ⟨g', rfl, rfl, e0'⟩
  · exact ⟨e0.trans (((hp.same hp').1 _ (Nat.le_refl _)).trans e0'.symm), rfl, rfl, fun i hi => (e i hi).trans (((hp.same hp').2 i hi).trans (e' i hi).symm)⟩
  · exact absurd g g'
  · exact absurd g' g
  · exact ⟨e0.trans e0'.symm, rfl, rfl, fun i hi => absurd hi (Nat.not_lt_zero _)⟩
def GivesW (out : KD → Nat → (Nat → Int) → Bool → Prop) (w : World) : Ending → World → Prop := fun e w' =>
  ∃ (v : KV) (D : KD) (u : Option Addr) (m q : Nat) (g : Nat → Int) (r : Bool), e = .returned (.tuple #[v.val D, .slice u m q, .bool r]) ∧ out D m g r ∧ (D.small ∧ m ≤ 1048576) ∧ (∃ X1 X2 : Nat → Prop, (∀ x, X1 x → w.heap.size ≤ x ∧ x < w'.heap.size) ∧ (∀ x, X2 x → (w.heap.size ≤ x ∧ x < w'.heap.size) ∧ ¬ X1 x) ∧ WkOwn X1 w' v D ∧ IntsOwn X2 w' u m g) ∧ Blw w w'
theorem WG.small {D : KD} (h : WG D) : D.small := by
  obtain ⟨c, kn, p, m, e⟩ := h.f
  have hk := h.g.k
  have hn := h.n4
  rw [e] at hk
  unfold KD.small
  rw [e]
  exact ⟨tot4 (c := c) (p := p) (m := m) hk.2, by omega⟩
theorem KD.zero_small : KD.zero.small := by unfold KD.small; exact ⟨by decide, by decide⟩
theorem WK.wk {E X : Nat → Prop} {w : World} {zw : Nat} {v : KV} {D : KD} (h : WK E w zw v D) (hX : ∀ x, (¬ E x ∧ x < w.heap.size ∧ x ≠ zw) → X x) : WkOwn X w v D :=
  ⟨_, _, fun b hb => ⟨hX b hb.1, fun e => hb.2 e.2⟩, fun b hb => hX b hb.1, h.tab, h.own⟩
theorem zero_givesW {out : KD → Nat → (Nat → Int) → Bool → Prop} {w w1 : World} (ho : out KD.zero 0 (fun _ => 0) false) (hb : Blw w w1) : GivesW out w (.returned (.tuple #[KV.zero.val KD.zero, .slice none 0 0, .bool false])) w1 :=
  ⟨KV.zero, KD.zero, none, 0, 0, fun _ => 0, false, rfl, ho, ⟨KD.zero_small, by omega⟩, ⟨fun _ => False, fun _ => False, fun _ h => h.elim, fun _ h => h.elim, WkOwn.zero _ _, IntsOwn.nil _ _ _ _⟩, hb⟩
theorem set4_mod {w : World} {z : Nat} (a b c d : Value) : Mod (fun x => x = z) w ((((w.setCell ⟨z, 0, none⟩ a).setCell ⟨z, 1, none⟩ b).setCell ⟨z, 2, none⟩ c).setCell ⟨z, 3, none⟩ d) :=
  (((Mod.setCell (X := fun x => x = z) _ (p := ⟨z, 0, none⟩) rfl _).trans (Mod.setCell (X := fun x => x = z) _ (p := ⟨z, 1, none⟩) rfl _)).trans (Mod.setCell (X := fun x => x = z) _ (p := ⟨z, 2, none⟩) rfl _)).trans (Mod.setCell (X := fun x => x = z) _ (p := ⟨z, 3, none⟩) rfl _)
theorem row4_set {w : World} {z : Nat} {u0 u1 u2 u3 a b c d : Value} (h : Row w z 4 (fun i => if i = 0 then u0 else if i = 1 then u1 else if i = 2 then u2 else u3)) : Row ((((w.setCell ⟨z, 0, none⟩ a).setCell ⟨z, 1, none⟩ b).setCell ⟨z, 2, none⟩ c).setCell ⟨z, 3, none⟩ d) z 4 (fun i => if i = 0 then a else if i = 1 then b else if i = 2 then c else d) :=
  ((((h.set 0 _).set 1 _).set 2 _).set 3 _).congr (fun i hi => by
    match i, hi with
    | 0, _ => rfl
    | 1, _ => rfl
    | 2, _ => rfl
    | 3, _ => rfl)
set_option maxRecDepth 10000 in
set_option maxHeartbeats 3200000 in
theorem implPW_any (k : Int) (ao : Option Addr) (n c : Nat) (F : Nat → Nat → Int) (w : World) (hn : n ≤ 1048576) (hl : KAt 4 (fun x => x < w.heap.size) w ao n F) :
    Calls Try.prog 16 #[.int .i64 k, .slice ao n c] w (GivesW (pwO k n F) w) := by
  have hA0 : Blw w (w.alloc (.cells #[.slice none 0 0, .slice none 0 0, .slice none 0 0, .int .i64 0] 32)) := (Blw.refl _).alloc _
  have HR0 : Hid (Row (w.alloc (.cells #[.slice none 0 0, .slice none 0 0, .slice none 0 0, .int .i64 0] 32)) w.heap.size 4 (fun i => if i = 0 then .slice none 0 0 else if i = 1 then .slice none 0 0 else if i = 2 then .slice none 0 0 else .int .i64 0)) := box4 w _ _ _ _ 32
  have HB0 : Hid (Blw w (w.alloc (.cells #[.slice none 0 0, .slice none 0 0, .slice none 0 0, .int .i64 0] 32))) := hA0
  have HL : Hid (KAt 4 (fun x => x < w.heap.size) (w.alloc (.cells #[.slice none 0 0, .slice none 0 0, .slice none 0 0, .int .i64 0] 32)) ao n F) := hl.blw hA0
  have HZ0 : Hid (w.heap.size + 1 = (w.alloc (.cells #[.slice none 0 0, .slice none 0 0, .slice none 0 0, .int .i64 0] 32)).heap.size) := by show _ = _; simp
  clear hl hA0
  go_enter Try.func16, Try.ntmps16
  go_wp2_with fail
  generalize (w.alloc (.cells #[.slice none 0 0, .slice none 0 0, .slice none 0 0, .int .i64 0] 32)) = W0 at *
  refine (tableToPlay_any k ao n c _ hn).mono ?_
  rintro e w1 ⟨b, R, r, rfl, ho, hs, own, hb1⟩
  have HO : Hid (resT (cntOK k ∧ n ≤ 60) (newB k) R r) := ho
  clear ho
  cases r
  · have HN : Hid (¬ (cntOK k ∧ n ≤ 60)) := HO.out.elim (fun g => by cases g.2.2) (fun g => g.1)
    have hA : Blw w1 (w1.alloc (.cells #[.slice b.a1 R.n b.c1, .slice b.a2 R.D.n b.c2] 29)) := (Blw.refl _).alloc _
    have HR : Hid (Row (w1.alloc (.cells #[.slice b.a1 R.n b.c1, .slice b.a2 R.D.n b.c2] 29)) w.heap.size 4 (fun i => if i = 0 then .slice none 0 0 else if i = 1 then .slice none 0 0 else if i = 2 then .slice none 0 0 else .int .i64 0)) := (HR0.out.blw hb1).blw hA
    have HB : Hid (Blw w (w1.alloc (.cells #[.slice b.a1 R.n b.c1, .slice b.a2 R.D.n b.c2] 29))) := (HB0.out.trans hb1).trans hA
    clear hb1 hA own hs HO HL HR0 HB0
    go_upto_region 3 with fail
    generalize (w1.alloc (.cells #[.slice b.a1 R.n b.c1, .slice b.a2 R.D.n b.c2] 29)) = W1 at *
    have HF : Hid (Blw w ((((W1.setCell ⟨w.heap.size, 0, none⟩ (.slice none 0 0)).setCell ⟨w.heap.size, 1, none⟩ (.slice none 0 0)).setCell ⟨w.heap.size, 2, none⟩ (.slice none 0 0)).setCell ⟨w.heap.size, 3, none⟩ (.int .i64 0))) := Mod.blw HB.out (set4_mod _ _ _ _) (fun i hi => by omega)
    have HR2 := row4_set (a := .slice none 0 0) (b := .slice none 0 0) (c := .slice none 0 0) (d := .int .i64 0) HR.out
    obtain ⟨t0, t1, t2, t3⟩ := get4 HR.out
    have f0 := HR.out.frozen 0
    have f1 := HR.out.frozen 1
    have f2 := HR.out.frozen 2
    have f3 := HR.out.frozen 3
    have FIN : Hid _ := zero_givesW (out := pwO k n F) (Or.inr ⟨HN.out, rfl, rfl, rfl⟩) HF.out
    clear HF HR HB HN HR2
    go_wp2
    exact bodyPost_ret (v := .tuple #[KV.zero.val KD.zero, .slice none 0 0, .bool false]) (by simp [results, Try.results16, go_sem, t0, t1, t2, t3]) rfl FIN.out
  have HY : Hid ((cntOK k ∧ n ≤ 60) ∧ R = newB k) := HO.out.elim (fun g => ⟨g.1, g.2.1⟩) (fun g => by cases g.2.2)
  clear HO
  have hA : Blw w1 ((w1.alloc (.cells #[.slice b.a1 R.n b.c1, .slice b.a2 R.D.n b.c2] 29)).alloc (.cells #[.slice b.a1 R.n b.c1, .slice b.a2 R.D.n b.c2, .slice none 0 0, .int .i64 0] 32)) := ((Blw.refl _).alloc _).alloc _
  have r4 := box4 (w1.alloc (.cells #[.slice b.a1 R.n b.c1, .slice b.a2 R.D.n b.c2] 29)) (.slice b.a1 R.n b.c1) (.slice b.a2 R.D.n b.c2) (.slice none 0 0) (.int .i64 0) 32
  rw [World.size_alloc] at r4
  have HT : Hid (WS (fun x => x ≤ w.heap.size) ((w1.alloc (.cells #[.slice b.a1 R.n b.c1, .slice b.a2 R.D.n b.c2] 29)).alloc (.cells #[.slice b.a1 R.n b.c1, .slice b.a2 R.D.n b.c2, .slice none 0 0, .int .i64 0] 32)) (w1.heap.size + 1) ⟨b, none, 0⟩ (newK k)) := by
    have hs1 := hb1.size
    have hz0 := HZ0.out
    obtain ⟨hck, rfl⟩ := HY.out
    refine ⟨⟨r4, (own.blw hA).mono (fun x hx => ⟨⟨fun e => by omega, by simp; omega, by omega⟩, fun e => by cases e.2⟩), KOwn.nil _ _ _ _ _, Or.inl ⟨rfl, rfl, rfl⟩, by show (0 : Nat) ≤ _; omega⟩, newK_good hck.1⟩
  have HB : Hid (Blw w ((w1.alloc (.cells #[.slice b.a1 R.n b.c1, .slice b.a2 R.D.n b.c2] 29)).alloc (.cells #[.slice b.a1 R.n b.c1, .slice b.a2 R.D.n b.c2, .slice none 0 0, .int .i64 0] 32))) := (HB0.out.trans hb1).trans hA
  have HR : Hid (Row ((w1.alloc (.cells #[.slice b.a1 R.n b.c1, .slice b.a2 R.D.n b.c2] 29)).alloc (.cells #[.slice b.a1 R.n b.c1, .slice b.a2 R.D.n b.c2, .slice none 0 0, .int .i64 0] 32)) w.heap.size 4 (fun i => if i = 0 then .slice none 0 0 else if i = 1 then .slice none 0 0 else if i = 2 then .slice none 0 0 else .int .i64 0)) := (HR0.out.blw hb1).blw hA
  have HZT : Hid (w.heap.size < w1.heap.size + 1) := by have := hb1.size; have := HZ0.out; show _ < _; omega
  have HLT : Hid (w.heap.size < w1.heap.size) := by have := hb1.size; have := HZ0.out; show _ < _; omega
  have HL2 : Hid (KAt 4 (fun x => x < ((w1.alloc (.cells #[.slice b.a1 R.n b.c1, .slice b.a2 R.D.n b.c2] 29)).alloc (.cells #[.slice b.a1 R.n b.c1, .slice b.a2 R.D.n b.c2, .slice none 0 0, .int .i64 0] 32)).heap.size ∧ x ≠ w1.heap.size + 1) ((w1.alloc (.cells #[.slice b.a1 R.n b.c1, .slice b.a2 R.D.n b.c2] 29)).alloc (.cells #[.slice b.a1 R.n b.c1, .slice b.a2 R.D.n b.c2, .slice none 0 0, .int .i64 0] 32)) ao n F) := (HL.out.blw (hb1.trans hA)).mono (fun x hx => by have h1 := HLT.out; have h2 := hA.size; omega)
  clear r4 hs own HR0 HB0 HL hb1 hA
  go_upto_region 5 with fail
  generalize ((w1.alloc (.cells #[.slice b.a1 R.n b.c1, .slice b.a2 R.D.n b.c2] 29)).alloc (.cells #[.slice b.a1 R.n b.c1, .slice b.a2 R.D.n b.c2, .slice none 0 0, .int .i64 0] 32)) = W1 at *
  generalize w1.heap.size + 1 = zt at *
  go_wp2_with fail
  refine (answersToW_any (fun x => x ≤ w.heap.size) zt ⟨b, none, 0⟩ (newK k) ao n c F W1 hn (fun x hx => by have := HB.out.size; have := HR.out.lt; omega) HT.out HL2.out).mono ?_
  rintro e w2 ⟨z, Ds, A, b2, rfl, hp, hz, hr, ht, hm⟩
  have HP : Hid (WPlays (newK k) F n Ds A) := hp
  have HZ : Hid (W1.heap.size ≤ z ∧ z < w2.heap.size ∧ zt < W1.heap.size ∧ w.heap.size < zt) := ⟨hz, hr.lt, HT.out.box.lt, HZT.out⟩
  have HRW : Hid (Row w2 z n (plRow n n A)) := hr
  have HT2 : Hid (WS (fun x => x ≤ w.heap.size ∨ x = z) w2 zt b2 (Ds n)) := ht
  have HB2 : Hid (Blw w w2) := Mod.blw HB.out hm (fun i hi => by have := HZT.out; omega)
  have HR2 : Hid (Row w2 w.heap.size 4 (fun i => if i = 0 then .slice none 0 0 else if i = 1 then .slice none 0 0 else if i = 2 then .slice none 0 0 else .int .i64 0)) := HR.out.mod hm (by have := HZT.out; omega)
  clear hp hz hr ht hm HT HB HR HL2 HZT
  have HF : Hid (GivesW (pwO k n F) w (.returned (.tuple #[b2.val (Ds n), .slice (some ⟨z, 0, none⟩) n n, .bool true])) ((((w2.setCell ⟨w.heap.size, 0, none⟩ (.slice b2.b.a1 (Ds n).B.n b2.b.c1)).setCell ⟨w.heap.size, 1, none⟩ (.slice b2.b.a2 (Ds n).B.D.n b2.b.c2)).setCell ⟨w.heap.size, 2, none⟩ (.slice b2.a (Ds n).n b2.q)).setCell ⟨w.heap.size, 3, none⟩ (.int .i64 (Ds n).h))) := by
    have m := set4_mod (w := w2) (z := w.heap.size) (.slice b2.b.a1 (Ds n).B.n b2.b.c1) (.slice b2.b.a2 (Ds n).B.D.n b2.b.c2) (.slice b2.a (Ds n).n b2.q) (.int .i64 (Ds n).h)
    have hs := m.size
    have hz := HZ.out
    refine ⟨b2, Ds n, some ⟨z, 0, none⟩, n, n, A, true, rfl, Or.inl ⟨HY.out.1, rfl, rfl, Ds, A, HP.out, rfl, fun i hi => rfl⟩, ⟨HT2.out.g.small, hn⟩, ⟨fun x => (w.heap.size < x ∧ x < w2.heap.size) ∧ x ≠ z, fun x => x = z, fun x hx => by omega, fun x hx => by omega, ?_, ?_⟩, Mod.blw HB2.out m (fun i hi => by omega)⟩
    · exact (HT2.out.w.wk (X := fun x => (w.heap.size < x ∧ x < w2.heap.size) ∧ x ≠ z) (fun x hx => by have := hx.1; omega)).mod m (fun x hx e => by omega)
    · exact ⟨by omega, fun h0 => ⟨z, rfl, rfl, (HRW.out.mod m (by omega)).congr (fun i hi => by unfold plRow; rw [if_pos hi])⟩⟩
  obtain ⟨q0, q1, q2, q3⟩ := get4 HT2.out.box
  obtain ⟨t0, t1, t2, t3⟩ := get4 HR2.out
  have f0 := HR2.out.frozen 0
  have f1 := HR2.out.frozen 1
  have f2 := HR2.out.frozen 2
  have f3 := HR2.out.frozen 3
  clear HR2 HT2 HRW HB2 HP HY HZ
  go_wp2
  exact bodyPost_ret (v := .tuple #[b2.val (Ds n), .slice (some ⟨z, 0, none⟩) n n, .bool true]) (by simp [results, Try.results16, go_sem, t0, t1, t2, t3]) rfl HF.out
end Go.Proofs.Ytbpdopcdhnemfaa
/- Walkers: the model's copies. -/
namespace Go.Proofs.Ytbpdopcdhnemfaa
open Go.RowKit
set_option linter.unusedSimpArgs false
set_option linter.unusedVariables false
theorem KAt.cell3 {Y : Nat → Prop} {W : World} {ad : Addr} {n : Nat} {F : Nat → Nat → Int} (h : KAt 3 Y W (some ad) n F) : ∀ j, j < n * 3 → W.cell? (ad.add j) = some (kc 3 F j) := by
  intro j hj
  obtain ⟨b, o, e, -, hc⟩ := h.2 (j / 3) (by omega)
  cases e
  have := hc (j % 3) (by omega)
  rw [show o + j / 3 * 3 + j % 3 = o + j by omega] at this
  rw [Addr.add_lit]
  exact this
/-- An empty list that was laid at z, and a list of short ways that is appended to it. -/
theorem cloneK {Y : Nat → Prop} {W : World} {z : Nat} {ao : Option Addr} {n : Nat} {F : Nat → Nat → Int} (hz : W.heap[z]? = some (.cells #[] 129 (0, 0))) (h : KAt 3 Y W ao n F) (hn : n ≤ 1000) (c : Nat) :
    ∃ ao' cap W2, (Builtin.append_ #[30, 30] 30 #[.slice (some ⟨z, 0, none⟩) 0 0, .slice ao n c]).run Try.prog W = .ok (.slice ao' n cap) W2 ∧ Buf 129 3 (fun b => b = z ∨ (W.heap.size ≤ b ∧ b < W2.heap.size)) W2 (.slice ao' n cap) n (kc 3 F) ∧ Mod (fun b => b = z) W W2 := by
  obtain ⟨i0, hi, hz0, hz1, hz2⟩ := info_parts infoSh
  have hb : Buf 129 3 (fun b => b = z) W (.slice (some ⟨z, 0, none⟩) 0 0) 0 (kc 3 (fun _ _ => 0)) := Buf.lit (X := fun b => b = z) hz 3 rfl _
  obtain ⟨a, cap, w', h1, h2, h3⟩ := Buf.append (t := 30) Try.underlying30 hi hz0 hz1 hz2 (by rfl) (by omega) hb (ao := ao) (m := n) c (G := kc 3 F) (fun e => by
    subst e
    by_cases h0 : n = 0
    · exact h0
    · obtain ⟨b, o, e, -⟩ := h.2 0 (by omega)
      cases e) (fun ad e => by subst e; exact h.cell3) (fun j => rfl) (by omega) (by omega) 30
  rw [Nat.zero_add] at h1 h2
  refine ⟨a, cap, w', h1, (Buf.congr h2 (fun i hi => by unfold cat; simp)).mono (fun b hb => ?_), h3.mono (fun b hb => ?_)⟩
  · omega
  · simpa [Value.ownBlock, eq_comm] using hb
set_option maxRecDepth 10000 in
set_option maxHeartbeats 3200000 in
theorem l7Own0_any (v : KV) (B : BD) (n : Nat) (F : Nat → Nat → Int) (h : Int) (Y : Nat → Prop) (w : World) (hk : B.D.n ≤ 4) (hf : ∃ c kn p m, B = ⟨4, c, ⟨kn, fun _ => 4, p, m⟩⟩) (hn : n ≤ 1000) (hA : WkAt Y w v ⟨B, n, F, h⟩) :
    Calls Try.prog 87 #[v.val ⟨B, n, F, h⟩] w fun e w' => ∃ v' : KV, e = .returned (v'.val ⟨B, n, F, h⟩) ∧ WkAt (fun x => w.heap.size ≤ x ∧ x < w'.heap.size) w' v' ⟨B, n, F, h⟩ ∧ Blw w w' := by
  have HOW : Hid (∀ (b : BV) (W : World), BookAt Y W b B → Calls Try.prog 109 #[b.val B] W fun e w' => ∃ b' : BV, e = .returned (b'.val B) ∧ BookOwn (fun x => W.heap.size ≤ x ∧ x < w'.heap.size) w' b' B ∧ Blw W w') := fun b W hb => by
    obtain ⟨c, kn, p, m, rfl⟩ := hf
    exact l6Own_any b c kn _ p m Y W hk (fun _ _ => rfl) hb
  clear hf hk
  have hb0 : Blw w ((w.alloc (.cells #[.slice v.b.a1 B.n v.b.c1, .slice v.b.a2 B.D.n v.b.c2, .slice v.a n v.q, .int .i64 h] 32)).alloc (.cells #[.slice none 0 0, .slice none 0 0, .slice none 0 0, .int .i64 0] 32)) := ((Blw.refl _).alloc _).alloc _
  have r0 : Row ((w.alloc (.cells #[.slice v.b.a1 B.n v.b.c1, .slice v.b.a2 B.D.n v.b.c2, .slice v.a n v.q, .int .i64 h] 32)).alloc (.cells #[.slice none 0 0, .slice none 0 0, .slice none 0 0, .int .i64 0] 32)) w.heap.size 4 (kb v ⟨B, n, F, h⟩) := (box4 w _ _ _ _ 32).blw ((Blw.refl _).alloc _)
  have r1 := box4 (w.alloc (.cells #[.slice v.b.a1 B.n v.b.c1, .slice v.b.a2 B.D.n v.b.c2, .slice v.a n v.q, .int .i64 h] 32)) (.slice none 0 0) (.slice none 0 0) (.slice none 0 0) (.int .i64 0) 32
  rw [World.size_alloc] at r1
  have R0 : Hid (Row ((w.alloc (.cells #[.slice v.b.a1 B.n v.b.c1, .slice v.b.a2 B.D.n v.b.c2, .slice v.a n v.q, .int .i64 h] 32)).alloc (.cells #[.slice none 0 0, .slice none 0 0, .slice none 0 0, .int .i64 0] 32)) w.heap.size 4 (kb v ⟨B, n, F, h⟩)) := r0
  have R1 : Hid (Row ((w.alloc (.cells #[.slice v.b.a1 B.n v.b.c1, .slice v.b.a2 B.D.n v.b.c2, .slice v.a n v.q, .int .i64 h] 32)).alloc (.cells #[.slice none 0 0, .slice none 0 0, .slice none 0 0, .int .i64 0] 32)) (w.heap.size + 1) 4 (fun i => if i = 0 then .slice none 0 0 else if i = 1 then .slice none 0 0 else if i = 2 then .slice none 0 0 else .int .i64 0)) := r1
  have HA : Hid (WkAt Y ((w.alloc (.cells #[.slice v.b.a1 B.n v.b.c1, .slice v.b.a2 B.D.n v.b.c2, .slice v.a n v.q, .int .i64 h] 32)).alloc (.cells #[.slice none 0 0, .slice none 0 0, .slice none 0 0, .int .i64 0] 32)) v ⟨B, n, F, h⟩) := hA.blw hb0
  have HB : Hid (Blw w ((w.alloc (.cells #[.slice v.b.a1 B.n v.b.c1, .slice v.b.a2 B.D.n v.b.c2, .slice v.a n v.q, .int .i64 h] 32)).alloc (.cells #[.slice none 0 0, .slice none 0 0, .slice none 0 0, .int .i64 0] 32))) := hb0
  have HZ : Hid (w.heap.size + 1 + 1 ≤ ((w.alloc (.cells #[.slice v.b.a1 B.n v.b.c1, .slice v.b.a2 B.D.n v.b.c2, .slice v.a n v.q, .int .i64 h] 32)).alloc (.cells #[.slice none 0 0, .slice none 0 0, .slice none 0 0, .int .i64 0] 32)).heap.size) := by show _ ≤ _; simp
  have HW : Hid (WkAt Y w v ⟨B, n, F, h⟩) := hA
  clear hA hb0 r0 r1
  go_enter Try.func87, Try.ntmps87
  go_upto_region 1 with fail
  generalize ((w.alloc (.cells #[.slice v.b.a1 B.n v.b.c1, .slice v.b.a2 B.D.n v.b.c2, .slice v.a n v.q, .int .i64 h] 32)).alloc (.cells #[.slice none 0 0, .slice none 0 0, .slice none 0 0, .int .i64 0] 32)) = w0 at *
  replace R0 : Hid (Row w0.drew w.heap.size 4 (kb v ⟨B, n, F, h⟩)) := R0.out.blw (Blw.refl _).drew
  replace R1 : Hid (Row w0.drew (w.heap.size + 1) 4 (fun i => if i = 0 then .slice none 0 0 else if i = 1 then .slice none 0 0 else if i = 2 then .slice none 0 0 else .int .i64 0)) := R1.out.blw (Blw.refl _).drew
  replace HA : Hid (WkAt Y w0.drew v ⟨B, n, F, h⟩) := HA.out.blw (Blw.refl _).drew
  replace HB : Hid (Blw w w0.drew) := HB.out.drew
  replace HZ : Hid (w.heap.size + 1 + 1 ≤ w0.drew.heap.size) := by have := HZ.out; show _ ≤ _; simpa using this
  refine wp_region_noPanic ?_
  refine wp_region_held_drew (S := fun w' => w'.cell? ⟨w.heap.size, 0, none⟩ = some (.slice v.b.a1 B.n v.b.c1) ∧ w'.cell? ⟨w.heap.size, 1, none⟩ = some (.slice v.b.a2 B.D.n v.b.c2) ∧ w'.cell? ⟨w.heap.size, 2, none⟩ = some (.slice v.a n v.q) ∧ w'.cell? ⟨w.heap.size, 3, none⟩ = some (.int .i64 h)) (by kernel_rfl) (get4 R0.out) (fun hB => ?_)
  clear hB
  generalize w0.drew = wd at *
  refine wpAnyH_take (i := 0) (oi := { dst := some 3, op := Op.fieldAddr 32 (Operand.tmp 1) 0, type := 0, pos := _, after := #[], guard := none }) (v := (.pointer (some ⟨w.heap.size, 0, none⟩))) rfl (by kernel_rfl) (by kernel_rfl) (by kernel_rfl) (fun _ _ _ h => h) (Or.inl ⟨by rfl, fun w' hS => by (try dsimp only at hS); go_simp⟩) (get4 R0.out) ?_
  simp only [Act.put, List.setIfInBounds_toArray, List.set_cons_zero, List.set_cons_succ]
  refine wpAnyH_take (i := 4) (oi := { dst := some 7, op := Op.fieldAddr 32 (Operand.tmp 1) 1, type := 0, pos := _, after := #[], guard := none }) (v := (.pointer (some ⟨w.heap.size, 2, none⟩))) rfl (by kernel_rfl) (by kernel_rfl) (by kernel_rfl) (fun _ _ _ h => h) (Or.inl ⟨by rfl, fun w' hS => by (try dsimp only at hS); go_simp⟩) (get4 R0.out) ?_
  simp only [Act.put, List.setIfInBounds_toArray, List.set_cons_zero, List.set_cons_succ]
  refine wpAnyH_take (i := 7) (oi := { dst := some 10, op := Op.fieldAddr 32 (Operand.tmp 1) 2, type := 0, pos := _, after := #[], guard := none }) (v := (.pointer (some ⟨w.heap.size, 3, none⟩))) rfl (by kernel_rfl) (by kernel_rfl) (by kernel_rfl) (fun _ _ _ h => h) (Or.inl ⟨by rfl, fun w' hS => by (try dsimp only at hS); go_simp⟩) (get4 R0.out) ?_
  simp only [Act.put, List.setIfInBounds_toArray, List.set_cons_zero, List.set_cons_succ]
  refine wpAnyH_take (i := 1) (oi := { dst := some 4, op := Op.load 29 (Operand.tmp 3), type := 29, pos := _, after := #[{ on := 0, ground := Ground.data }], guard := none }) (v := (.agg #[.slice v.b.a1 B.n v.b.c1, .slice v.b.a2 B.D.n v.b.c2])) rfl (by kernel_rfl) (by kernel_rfl) (by kernel_rfl) (fun _ _ _ h => h) (Or.inl ⟨by rfl, fun w' hS => by (try dsimp only at hS); go_simp⟩) (get4 R0.out) ?_
  simp only [Act.put, List.setIfInBounds_toArray, List.set_cons_zero, List.set_cons_succ]
  refine wpAnyH_take (i := 5) (oi := { dst := some 8, op := Op.load 30 (Operand.tmp 7), type := 30, pos := _, after := #[{ on := 4, ground := Ground.data }], guard := none }) (v := (.slice v.a n v.q)) rfl (by kernel_rfl) (by kernel_rfl) (by kernel_rfl) (fun _ _ _ h => h) (Or.inl ⟨by rfl, fun w' hS => by (try dsimp only at hS); go_simp⟩) (get4 R0.out) ?_
  simp only [Act.put, List.setIfInBounds_toArray, List.set_cons_zero, List.set_cons_succ]
  refine wpAnyH_take (i := 8) (oi := { dst := some 11, op := Op.load 3 (Operand.tmp 10), type := 3, pos := _, after := #[{ on := 7, ground := Ground.data }], guard := none }) (v := (.int .i64 h)) rfl (by kernel_rfl) (by kernel_rfl) (by kernel_rfl) (fun _ _ _ h => h) (Or.inl ⟨by rfl, fun w' hS => by (try dsimp only at hS); go_simp⟩) (get4 R0.out) ?_
  simp only [Act.put, List.setIfInBounds_toArray, List.set_cons_zero, List.set_cons_succ]
  refine wpAnyH_ready (rs := [2, 3]) (by kernel_rfl) (by simp) ?_
  refine AllReadyH.cons (o := { dst := some 5, op := Op.call { callee := Callee.value (Operand.func 109), args := #[Operand.tmp 4], argTypes := #[29] }, type := 29, pos := _, after := #[{ on := 1, ground := Ground.data }], guard := none }) rfl (fun K hK => ?_) (AllReadyH.cons (o := { dst := some 6, op := Op.buildSlice 30 0 #[], type := 30, pos := _, after := #[], guard := none }) rfl (fun K hK => ?_) AllReadyH.nil)
  · go_simp
    refine (HOW.out v.b _ HA.out.t).mono ?_
    rintro e w1 ⟨bt, rfl, ht, hb⟩
    have o0 := HZ.out
    have hs := hb.size
    replace R0 : Hid (Row w1 w.heap.size 4 (kb v ⟨B, n, F, h⟩)) := R0.out.blw hb
    replace R1 : Hid (Row w1 (w.heap.size + 1) 4 (fun i => if i = 0 then .slice none 0 0 else if i = 1 then .slice none 0 0 else if i = 2 then .slice none 0 0 else .int .i64 0)) := R1.out.blw hb
    replace HB : Hid (Blw w w1) := HB.out.trans hb
    replace HA : Hid (WkAt Y w1 v ⟨B, n, F, h⟩) := HA.out.blw hb
    have HT : Hid (BookOwn (fun b => wd.heap.size ≤ b ∧ b < w1.heap.size) w1 bt B) := ht
    have HZ1 : Hid (wd.heap.size ≤ w1.heap.size) := hs
    clear hb ht hs o0
    refine hK.out _ _ (get4 R0.out) (fun hB => ?_)
    clear hK K hB
    try simp only [Act.put, List.setIfInBounds_toArray, List.set_cons_zero, List.set_cons_succ]
    refine wpAnyH_ready (rs := [3]) (by kernel_rfl) (by simp) ?_
    refine AllReadyH.cons (o := { dst := some 6, op := Op.buildSlice 30 0 #[], type := 30, pos := _, after := #[], guard := none }) rfl (fun K hK => ?_) AllReadyH.nil
    go_simp
    have o0 := HZ.out; have o1 := HZ1.out
    have hA : Blw w1 (w1.alloc (.cells #[] 129)) := (Blw.refl _).alloc _
    have hE : (w1.alloc (.cells #[] 129)).heap[w1.heap.size]? = some (.cells #[] 129 (0, 0)) := heap_alloc_new w1 _
    have hS : w1.heap.size < (w1.alloc (.cells #[] 129)).heap.size := by simp
    generalize (w1.alloc (.cells #[] 129)) = w2 at *
    replace R0 : Hid (Row w2 w.heap.size 4 (kb v ⟨B, n, F, h⟩)) := R0.out.blw hA
    replace R1 : Hid (Row w2 (w.heap.size + 1) 4 (fun i => if i = 0 then .slice none 0 0 else if i = 1 then .slice none 0 0 else if i = 2 then .slice none 0 0 else .int .i64 0)) := R1.out.blw hA
    replace HB : Hid (Blw w w2) := HB.out.trans hA
    replace HA : Hid (WkAt Y w2 v ⟨B, n, F, h⟩) := HA.out.blw hA
    replace HT : Hid (BookOwn (fun b => wd.heap.size ≤ b ∧ b < w1.heap.size) w2 bt B) := HT.out.blw hA
    have HE : Hid (w2.heap[w1.heap.size]? = some (.cells #[] 129 (0, 0))) := hE
    have HZ2 : Hid (w1.heap.size < w2.heap.size) := hS
    clear hA hE hS o0 o1
    refine hK.out _ _ (get4 R0.out) (fun hB => ?_)
    clear hK K hB
    try simp only [Act.put, List.setIfInBounds_toArray, List.set_cons_zero, List.set_cons_succ]
    refine wpAnyH_ready (rs := [6]) (by kernel_rfl) (by simp) ?_
    refine AllReadyH.cons (o := { dst := some 9, op := Op.call { callee := Callee.builtin Builtin.append, args := #[Operand.tmp 6, Operand.tmp 8], argTypes := #[30, 30] }, type := 30, pos := _, after := #[{ on := 3, ground := Ground.data }, { on := 5, ground := Ground.data }, { on := 2, ground := Ground.chain }], guard := none }) rfl (fun K hK => ?_) AllReadyH.nil
    have o0 := HZ.out; have o1 := HZ1.out; have o2 := HZ2.out
    obtain ⟨a1, q1, w3, hrun, hbuf, hmod⟩ := cloneK HE.out HA.out.k hn v.q
    refine step_app (.tmp 6) (.tmp 8) 30 (by rfl) ?_
    refine ⟨_, _, hrun, ?_⟩
    clear hrun
    have hs := hmod.size
    clear HE
    replace R0 : Hid (Row w3 w.heap.size 4 (kb v ⟨B, n, F, h⟩)) := R0.out.mod hmod (by omega)
    replace R1 : Hid (Row w3 (w.heap.size + 1) 4 (fun i => if i = 0 then .slice none 0 0 else if i = 1 then .slice none 0 0 else if i = 2 then .slice none 0 0 else .int .i64 0)) := R1.out.mod hmod (by omega)
    replace HB : Hid (Blw w w3) := Mod.blw HB.out hmod (fun i hi => by omega)
    replace HA : Hid (WkAt Y w3 v ⟨B, n, F, h⟩) := HW.out.blw HB.out
    replace HT : Hid (BookOwn (fun b => wd.heap.size ≤ b ∧ b < w1.heap.size) w3 bt B) := HT.out.mod hmod (fun b hx => by omega)
    have HL : Hid (Buf 129 3 (fun b => b = w1.heap.size ∨ (w2.heap.size ≤ b ∧ b < w3.heap.size)) w3 (.slice a1 n q1) n (kc 3 F)) := hbuf
    have HZ3 : Hid (w2.heap.size ≤ w3.heap.size) := hs
    clear hmod hbuf hs o0 o1 o2
    refine hK.out _ _ (get4 R0.out) (fun hB => ?_)
    clear hK K hB
    try simp only [Act.put, List.setIfInBounds_toArray, List.set_cons_zero, List.set_cons_succ]
    refine wpAnyH_take (i := 9) (oi := { dst := some 12, op := Op.build 32 #[(0, Operand.tmp 5), (1, Operand.tmp 9), (2, Operand.tmp 11)], type := 32, pos := _, after := #[{ on := 2, ground := Ground.data }, { on := 6, ground := Ground.data }, { on := 8, ground := Ground.data }], guard := none }) (v := (.agg #[.slice bt.a1 B.n bt.c1, .slice bt.a2 B.D.n bt.c2, .slice a1 n q1, .int .i64 h])) rfl (by kernel_rfl) (by kernel_rfl) (by kernel_rfl) (fun _ _ _ h => h) (Or.inl ⟨by rfl, fun w' hS => by (try dsimp only at hS); go_simp⟩) (get4 R0.out) ?_
    simp only [Act.put, List.setIfInBounds_toArray, List.set_cons_zero, List.set_cons_succ]
    refine wpAnyH_ready (rs := [10]) (by kernel_rfl) (by simp) ?_
    refine AllReadyH.cons (o := { dst := none, op := Op.store 32 (Operand.tmp 2) (Operand.tmp 12), type := 0, pos := _, after := #[{ on := 9, ground := Ground.data }, { on := 6, ground := Ground.chain }, { on := 0, ground := Ground.phase }, { on := 1, ground := Ground.phase }, { on := 2, ground := Ground.phase }, { on := 3, ground := Ground.phase }, { on := 4, ground := Ground.phase }, { on := 5, ground := Ground.phase }, { on := 6, ground := Ground.phase }, { on := 7, ground := Ground.phase }, { on := 8, ground := Ground.phase }, { on := 9, ground := Ground.phase }], guard := none }) rfl (fun K hK => ?_) AllReadyH.nil
    have o0 := HZ.out; have o1 := HZ1.out; have o2 := HZ2.out; have o3 := HZ3.out
    obtain ⟨t0, t1, t2, t3⟩ := get4 R1.out
    have f0 := R1.out.frozen 0
    have f1 := R1.out.frozen 1
    have f2 := R1.out.frozen 2
    have f3 := R1.out.frozen 3
    have m1 := set4_mod (w := w3) (z := w.heap.size + 1) (.slice bt.a1 B.n bt.c1) (.slice bt.a2 B.D.n bt.c2) (.slice a1 n q1) (.int .i64 h)
    have h5 := m1.size
    obtain ⟨ax, px, ex, -, -, hx⟩ := Buf.ways HL.out (by omega)
    cases ex
    have FIN : Hid (WkAt (fun x => w.heap.size ≤ x ∧ x < ((((w3.setCell ⟨w.heap.size + 1, 0, none⟩ (.slice bt.a1 B.n bt.c1)).setCell ⟨w.heap.size + 1, 1, none⟩ (.slice bt.a2 B.D.n bt.c2)).setCell ⟨w.heap.size + 1, 2, none⟩ (.slice a1 n q1)).setCell ⟨w.heap.size + 1, 3, none⟩ (.int .i64 h)).heap.size) ((((w3.setCell ⟨w.heap.size + 1, 0, none⟩ (.slice bt.a1 B.n bt.c1)).setCell ⟨w.heap.size + 1, 1, none⟩ (.slice bt.a2 B.D.n bt.c2)).setCell ⟨w.heap.size + 1, 2, none⟩ (.slice a1 n q1)).setCell ⟨w.heap.size + 1, 3, none⟩ (.int .i64 h)) ⟨bt, a1, q1⟩ ⟨B, n, F, h⟩ ∧ Blw w ((((w3.setCell ⟨w.heap.size + 1, 0, none⟩ (.slice bt.a1 B.n bt.c1)).setCell ⟨w.heap.size + 1, 1, none⟩ (.slice bt.a2 B.D.n bt.c2)).setCell ⟨w.heap.size + 1, 2, none⟩ (.slice a1 n q1)).setCell ⟨w.heap.size + 1, 3, none⟩ (.int .i64 h))) := ⟨⟨(HT.out.mod m1 (fun b hb => by omega)).at.mono (fun b hb => ⟨by omega, by omega⟩), (hx.mod m1 (fun b hb => by omega)).at.mono (fun b hb => ⟨by omega, by omega⟩)⟩, Mod.blw HB.out m1 (fun i hi => by omega)⟩
    clear m1 h5 HL hx HT HB HA R1 o0 o1 o2 o3
    have hS0 := get4 R0.out
    go_simp
    refine hK.out _ _ (by simpa [World.cell?_setCell_other] using hS0) (fun hB => ?_)
    clear hK K hB
    try simp only [Act.put, List.setIfInBounds_toArray, List.set_cons_zero, List.set_cons_succ]
    refine wpAnyH_done (by kernel_rfl) ?_ _
    refine NoPanic.normal ?_
    clear R0 HW HOW
    go_wp2
    refine bodyPost_ret (v := KV.val ⟨bt, a1, q1⟩ ⟨B, n, F, h⟩) (by simp [results, Try.results87, go_sem, t0, t1, t2, t3]) rfl ?_
    exact ⟨_, rfl, FIN.out.1, FIN.out.2⟩
  · go_simp
    have o0 := HZ.out
    have hA : Blw wd (wd.alloc (.cells #[] 129)) := (Blw.refl _).alloc _
    have hE : (wd.alloc (.cells #[] 129)).heap[wd.heap.size]? = some (.cells #[] 129 (0, 0)) := heap_alloc_new wd _
    have hS : wd.heap.size < (wd.alloc (.cells #[] 129)).heap.size := by simp
    generalize (wd.alloc (.cells #[] 129)) = w1 at *
    replace R0 : Hid (Row w1 w.heap.size 4 (kb v ⟨B, n, F, h⟩)) := R0.out.blw hA
    replace R1 : Hid (Row w1 (w.heap.size + 1) 4 (fun i => if i = 0 then .slice none 0 0 else if i = 1 then .slice none 0 0 else if i = 2 then .slice none 0 0 else .int .i64 0)) := R1.out.blw hA
    replace HB : Hid (Blw w w1) := HB.out.trans hA
    replace HA : Hid (WkAt Y w1 v ⟨B, n, F, h⟩) := HA.out.blw hA
    have HE : Hid (w1.heap[wd.heap.size]? = some (.cells #[] 129 (0, 0))) := hE
    have HZ1 : Hid (wd.heap.size < w1.heap.size) := hS
    clear hA hE hS o0
    refine hK.out _ _ (get4 R0.out) (fun hB => ?_)
    clear hK K hB
    try simp only [Act.put, List.setIfInBounds_toArray, List.set_cons_zero, List.set_cons_succ]
    refine wpAnyH_ready (rs := [2]) (by kernel_rfl) (by simp) ?_
    refine AllReadyH.cons (o := { dst := some 5, op := Op.call { callee := Callee.value (Operand.func 109), args := #[Operand.tmp 4], argTypes := #[29] }, type := 29, pos := _, after := #[{ on := 1, ground := Ground.data }], guard := none }) rfl (fun K hK => ?_) AllReadyH.nil
    go_simp
    refine (HOW.out v.b _ HA.out.t).mono ?_
    rintro e w2 ⟨bt, rfl, ht, hb⟩
    have o0 := HZ.out; have o1 := HZ1.out
    have hs := hb.size
    replace R0 : Hid (Row w2 w.heap.size 4 (kb v ⟨B, n, F, h⟩)) := R0.out.blw hb
    replace R1 : Hid (Row w2 (w.heap.size + 1) 4 (fun i => if i = 0 then .slice none 0 0 else if i = 1 then .slice none 0 0 else if i = 2 then .slice none 0 0 else .int .i64 0)) := R1.out.blw hb
    replace HB : Hid (Blw w w2) := HB.out.trans hb
    replace HA : Hid (WkAt Y w2 v ⟨B, n, F, h⟩) := HA.out.blw hb
    replace HE : Hid (w2.heap[wd.heap.size]? = some (.cells #[] 129 (0, 0))) := (hb.block wd.heap.size (by omega)).trans HE.out
    have HT : Hid (BookOwn (fun b => w1.heap.size ≤ b ∧ b < w2.heap.size) w2 bt B) := ht
    have HZ2 : Hid (w1.heap.size ≤ w2.heap.size) := hs
    clear hb ht hs o0 o1
    refine hK.out _ _ (get4 R0.out) (fun hB => ?_)
    clear hK K hB
    try simp only [Act.put, List.setIfInBounds_toArray, List.set_cons_zero, List.set_cons_succ]
    refine wpAnyH_ready (rs := [6]) (by kernel_rfl) (by simp) ?_
    refine AllReadyH.cons (o := { dst := some 9, op := Op.call { callee := Callee.builtin Builtin.append, args := #[Operand.tmp 6, Operand.tmp 8], argTypes := #[30, 30] }, type := 30, pos := _, after := #[{ on := 3, ground := Ground.data }, { on := 5, ground := Ground.data }, { on := 2, ground := Ground.chain }], guard := none }) rfl (fun K hK => ?_) AllReadyH.nil
    have o0 := HZ.out; have o1 := HZ1.out; have o2 := HZ2.out
    obtain ⟨a1, q1, w3, hrun, hbuf, hmod⟩ := cloneK HE.out HA.out.k hn v.q
    refine step_app (.tmp 6) (.tmp 8) 30 (by rfl) ?_
    refine ⟨_, _, hrun, ?_⟩
    clear hrun
    have hs := hmod.size
    clear HE
    replace R0 : Hid (Row w3 w.heap.size 4 (kb v ⟨B, n, F, h⟩)) := R0.out.mod hmod (by omega)
    replace R1 : Hid (Row w3 (w.heap.size + 1) 4 (fun i => if i = 0 then .slice none 0 0 else if i = 1 then .slice none 0 0 else if i = 2 then .slice none 0 0 else .int .i64 0)) := R1.out.mod hmod (by omega)
    replace HB : Hid (Blw w w3) := Mod.blw HB.out hmod (fun i hi => by omega)
    replace HA : Hid (WkAt Y w3 v ⟨B, n, F, h⟩) := HW.out.blw HB.out
    replace HT : Hid (BookOwn (fun b => w1.heap.size ≤ b ∧ b < w2.heap.size) w3 bt B) := HT.out.mod hmod (fun b hx => by omega)
    have HL : Hid (Buf 129 3 (fun b => b = wd.heap.size ∨ (w2.heap.size ≤ b ∧ b < w3.heap.size)) w3 (.slice a1 n q1) n (kc 3 F)) := hbuf
    have HZ3 : Hid (w2.heap.size ≤ w3.heap.size) := hs
    clear hmod hbuf hs o0 o1 o2
    refine hK.out _ _ (get4 R0.out) (fun hB => ?_)
    clear hK K hB
    try simp only [Act.put, List.setIfInBounds_toArray, List.set_cons_zero, List.set_cons_succ]
    refine wpAnyH_take (i := 9) (oi := { dst := some 12, op := Op.build 32 #[(0, Operand.tmp 5), (1, Operand.tmp 9), (2, Operand.tmp 11)], type := 32, pos := _, after := #[{ on := 2, ground := Ground.data }, { on := 6, ground := Ground.data }, { on := 8, ground := Ground.data }], guard := none }) (v := (.agg #[.slice bt.a1 B.n bt.c1, .slice bt.a2 B.D.n bt.c2, .slice a1 n q1, .int .i64 h])) rfl (by kernel_rfl) (by kernel_rfl) (by kernel_rfl) (fun _ _ _ h => h) (Or.inl ⟨by rfl, fun w' hS => by (try dsimp only at hS); go_simp⟩) (get4 R0.out) ?_
    simp only [Act.put, List.setIfInBounds_toArray, List.set_cons_zero, List.set_cons_succ]
    refine wpAnyH_ready (rs := [10]) (by kernel_rfl) (by simp) ?_
    refine AllReadyH.cons (o := { dst := none, op := Op.store 32 (Operand.tmp 2) (Operand.tmp 12), type := 0, pos := _, after := #[{ on := 9, ground := Ground.data }, { on := 6, ground := Ground.chain }, { on := 0, ground := Ground.phase }, { on := 1, ground := Ground.phase }, { on := 2, ground := Ground.phase }, { on := 3, ground := Ground.phase }, { on := 4, ground := Ground.phase }, { on := 5, ground := Ground.phase }, { on := 6, ground := Ground.phase }, { on := 7, ground := Ground.phase }, { on := 8, ground := Ground.phase }, { on := 9, ground := Ground.phase }], guard := none }) rfl (fun K hK => ?_) AllReadyH.nil
    have o0 := HZ.out; have o1 := HZ1.out; have o2 := HZ2.out; have o3 := HZ3.out
    obtain ⟨t0, t1, t2, t3⟩ := get4 R1.out
    have f0 := R1.out.frozen 0
    have f1 := R1.out.frozen 1
    have f2 := R1.out.frozen 2
    have f3 := R1.out.frozen 3
    have m1 := set4_mod (w := w3) (z := w.heap.size + 1) (.slice bt.a1 B.n bt.c1) (.slice bt.a2 B.D.n bt.c2) (.slice a1 n q1) (.int .i64 h)
    have h5 := m1.size
    obtain ⟨ax, px, ex, -, -, hx⟩ := Buf.ways HL.out (by omega)
    cases ex
    have FIN : Hid (WkAt (fun x => w.heap.size ≤ x ∧ x < ((((w3.setCell ⟨w.heap.size + 1, 0, none⟩ (.slice bt.a1 B.n bt.c1)).setCell ⟨w.heap.size + 1, 1, none⟩ (.slice bt.a2 B.D.n bt.c2)).setCell ⟨w.heap.size + 1, 2, none⟩ (.slice a1 n q1)).setCell ⟨w.heap.size + 1, 3, none⟩ (.int .i64 h)).heap.size) ((((w3.setCell ⟨w.heap.size + 1, 0, none⟩ (.slice bt.a1 B.n bt.c1)).setCell ⟨w.heap.size + 1, 1, none⟩ (.slice bt.a2 B.D.n bt.c2)).setCell ⟨w.heap.size + 1, 2, none⟩ (.slice a1 n q1)).setCell ⟨w.heap.size + 1, 3, none⟩ (.int .i64 h)) ⟨bt, a1, q1⟩ ⟨B, n, F, h⟩ ∧ Blw w ((((w3.setCell ⟨w.heap.size + 1, 0, none⟩ (.slice bt.a1 B.n bt.c1)).setCell ⟨w.heap.size + 1, 1, none⟩ (.slice bt.a2 B.D.n bt.c2)).setCell ⟨w.heap.size + 1, 2, none⟩ (.slice a1 n q1)).setCell ⟨w.heap.size + 1, 3, none⟩ (.int .i64 h))) := ⟨⟨(HT.out.mod m1 (fun b hb => by omega)).at.mono (fun b hb => ⟨by omega, by omega⟩), (hx.mod m1 (fun b hb => by omega)).at.mono (fun b hb => ⟨by omega, by omega⟩)⟩, Mod.blw HB.out m1 (fun i hi => by omega)⟩
    clear m1 h5 HL hx HT HB HA R1 o0 o1 o2 o3
    have hS0 := get4 R0.out
    go_simp
    refine hK.out _ _ (by simpa [World.cell?_setCell_other] using hS0) (fun hB => ?_)
    clear hK K hB
    try simp only [Act.put, List.setIfInBounds_toArray, List.set_cons_zero, List.set_cons_succ]
    refine wpAnyH_done (by kernel_rfl) ?_ _
    refine NoPanic.normal ?_
    clear R0 HW HOW
    go_wp2
    refine bodyPost_ret (v := KV.val ⟨bt, a1, q1⟩ ⟨B, n, F, h⟩) (by simp [results, Try.results87, go_sem, t0, t1, t2, t3]) rfl ?_
    exact ⟨_, rfl, FIN.out.1, FIN.out.2⟩
theorem l7Own_any (v : KV) (D : KD) (Y : Nat → Prop) (w : World) (hG : WG D) (hA : WkAt Y w v D) :
    Calls Try.prog 87 #[v.val D] w fun e w' => ∃ v' : KV, e = .returned (v'.val D) ∧ WkAt (fun x => w.heap.size ≤ x ∧ x < w'.heap.size) w' v' D ∧ Blw w w' := by
  have hn := hG.n4
  exact l7Own0_any v D.B D.n D.F D.h Y w hG.g.k.2 hG.f (by omega) hA
end Go.Proofs.Ytbpdopcdhnemfaa
/- A walker's step: the model's. -/
namespace Go.Proofs.Ytbpdopcdhnemfaa
open Go.RowKit
set_option linter.unusedSimpArgs false
set_option linter.unusedVariables false

theorem least_any (a b r : Int) (w : World) (h : r = min a b) : Calls Try.prog 153 #[.int .i64 a, .int .i64 b] w fun e w' => e = .returned (.int .i64 r) ∧ w' = w := by
  by_cases hl : a < b
  · obtain rfl : r = a := by omega
    clear h
    go_enter Try.func153, Try.ntmps153
    go_wp2
    go_ret
    exact ⟨rfl, rfl⟩
  · obtain rfl : r = b := by omega
    clear h
    go_enter Try.func153, Try.ntmps153
    go_wp2
    go_ret
    exact ⟨rfl, rfl⟩
theorem row4_set2 {w : World} {z : Nat} {u v x2 x3 c : Value} (h : Row w z 4 (fun i => if i = 0 then u else if i = 1 then v else if i = 2 then x2 else x3)) : Row (w.setCell ⟨z, 2, none⟩ c) z 4 (fun i => if i = 0 then u else if i = 1 then v else if i = 2 then c else x3) :=
  (h.set 2 _).congr (fun i hi => by
    match i, hi with
    | 0, _ => rfl
    | 1, _ => rfl
    | 2, _ => rfl
    | 3, _ => rfl)
theorem row4_set3 {w : World} {z : Nat} {u v x2 x3 c : Value} (h : Row w z 4 (fun i => if i = 0 then u else if i = 1 then v else if i = 2 then x2 else x3)) : Row (w.setCell ⟨z, 3, none⟩ c) z 4 (fun i => if i = 0 then u else if i = 1 then v else if i = 2 then x2 else c) :=
  (h.set 3 _).congr (fun i hi => by
    match i, hi with
    | 0, _ => rfl
    | 1, _ => rfl
    | 2, _ => rfl
    | 3, _ => rfl)
theorem set1_mod (w : World) (z o : Nat) (a : Value) : Mod (fun x => x = z) w (w.setCell ⟨z, o, none⟩ a) := Mod.setCell (X := fun x => x = z) _ (p := ⟨z, o, none⟩) rfl _
/-- The model's boxes of a step: the walker's zb, the step's zs, the answer's zr; and the walker. -/
structure MS (lo zx : Nat) (k a g y : Int) (w W : World) (zb zs zr : Nat) (v : KV) (D : KD) : Prop where
  r2 : Row W zb 4 (kb v D)
  rs : Row W zs 4 (fun i => if i = 0 then .int .i64 k else if i = 1 then .int .i64 a else if i = 2 then .int .i64 g else .int .i64 y)
  r4 : Row W zr 4 (fun i => if i = 0 then .slice none 0 0 else if i = 1 then .slice none 0 0 else if i = 2 then .slice none 0 0 else .int .i64 0)
  hv : WkAt (fun x => (x < W.heap.size ∧ x ≠ zb ∧ x ≠ zr) ∧ (lo ≤ x ∧ x ≠ zx)) W v D
  hb : Blw w W
  od : w.heap.size ≤ zb ∧ zb < zs ∧ zs < zr
  l0 : (lo ≤ w.heap.size ∧ zx < w.heap.size)
theorem MS.blw {lo zx : Nat} {k a g y : Int} {w W W' : World} {zb zs zr : Nat} {v : KV} {D : KD} (h : MS lo zx k a g y w W zb zs zr v D) (hb : Blw W W') : MS lo zx k a g y w W' zb zs zr v D :=
  ⟨h.r2.blw hb, h.rs.blw hb, h.r4.blw hb, (h.hv.blw hb).mono (fun x hx => ⟨⟨Nat.lt_of_lt_of_le hx.1.1 hb.size, hx.1.2⟩, hx.2⟩), h.hb.trans hb, h.od, h.l0⟩
theorem MS.tab {lo zx : Nat} {k a g y : Int} {w W : World} {zb zs zr : Nat} {v : KV} {D : KD} {b : BV} {R : BD} (h : MS lo zx k a g y w W zb zs zr v D) (ht : BookAt (fun x => (x < W.heap.size ∧ x ≠ zb ∧ x ≠ zr) ∧ (lo ≤ x ∧ x ≠ zx)) W b R) :
    MS lo zx k a g y w ((W.setCell ⟨zb, 0, none⟩ (.slice b.a1 R.n b.c1)).setCell ⟨zb, 1, none⟩ (.slice b.a2 R.D.n b.c2)) zb zs zr ⟨b, v.a, v.q⟩ ⟨R, D.n, D.F, D.h⟩ := by
  have m := set2_mod (X := fun x => x = zb) W rfl (.slice b.a1 R.n b.c1) (.slice b.a2 R.D.n b.c2)
  have hs := m.size
  have hl := h.od
  exact ⟨row4_set01 h.r2, h.rs.mod m (by omega), h.r4.mod m (by omega), ⟨(ht.mod m (fun x hx e => hx.1.2.1 e)).mono (fun x hx => ⟨⟨by omega, hx.1.2⟩, hx.2⟩), (h.hv.k.mod m (fun x hx e => hx.1.2.1 e)).mono (fun x hx => ⟨⟨by omega, hx.1.2⟩, hx.2⟩)⟩, Mod.blw h.hb m (fun i hi => by omega), h.od, h.l0⟩
theorem MS.list {lo zx : Nat} {k a g y : Int} {w W : World} {zb zs zr n q : Nat} {v : KV} {D : KD} {ao : Option Addr} {F : Nat → Nat → Int} (h : MS lo zx k a g y w W zb zs zr v D) (ht : KAt 3 (fun x => (x < W.heap.size ∧ x ≠ zb ∧ x ≠ zr) ∧ (lo ≤ x ∧ x ≠ zx)) W ao n F) :
    MS lo zx k a g y w (W.setCell ⟨zb, 2, none⟩ (.slice ao n q)) zb zs zr ⟨v.b, ao, q⟩ ⟨D.B, n, F, D.h⟩ := by
  have m := set1_mod W zb 2 (.slice ao n q)
  have hs := m.size
  have hl := h.od
  exact ⟨row4_set2 h.r2, h.rs.mod m (by omega), h.r4.mod m (by omega), ⟨(h.hv.t.mod m (fun x hx e => hx.1.2.1 e)).mono (fun x hx => ⟨⟨by omega, hx.1.2⟩, hx.2⟩), (ht.mod m (fun x hx e => hx.1.2.1 e)).mono (fun x hx => ⟨⟨by omega, hx.1.2⟩, hx.2⟩)⟩, Mod.blw h.hb m (fun i hi => by omega), h.od, h.l0⟩
theorem MS.hits {lo zx : Nat} {k a g y : Int} {w W : World} {zb zs zr : Nat} {v : KV} {D : KD} (h : MS lo zx k a g y w W zb zs zr v D) (x : Int) :
    MS lo zx k a g y w (W.setCell ⟨zb, 3, none⟩ (.int .i64 x)) zb zs zr v ⟨D.B, D.n, D.F, x⟩ := by
  have m := set1_mod W zb 3 (.int .i64 x)
  have hs := m.size
  have hl := h.od
  exact ⟨row4_set3 h.r2, h.rs.mod m (by omega), h.r4.mod m (by omega), ⟨(h.hv.t.mod m (fun x hx e => hx.1.2.1 e)).mono (fun x hx => ⟨⟨by omega, hx.1.2⟩, hx.2⟩), (h.hv.k.mod m (fun x hx e => hx.1.2.1 e)).mono (fun x hx => ⟨⟨by omega, hx.1.2⟩, hx.2⟩)⟩, Mod.blw h.hb m (fun i hi => by omega), h.od, h.l0⟩
theorem MS.fin {lo zx : Nat} {k a g y : Int} {w W : World} {zb zs zr : Nat} {v : KV} {D : KD} (h : MS lo zx k a g y w W zb zs zr v D) :
    WkAt (fun x => (lo ≤ x ∧ x ≠ zx) ∧ x < ((((W.setCell ⟨zr, 0, none⟩ (.slice v.b.a1 D.B.n v.b.c1)).setCell ⟨zr, 1, none⟩ (.slice v.b.a2 D.B.D.n v.b.c2)).setCell ⟨zr, 2, none⟩ (.slice v.a D.n v.q)).setCell ⟨zr, 3, none⟩ (.int .i64 D.h)).heap.size) ((((W.setCell ⟨zr, 0, none⟩ (.slice v.b.a1 D.B.n v.b.c1)).setCell ⟨zr, 1, none⟩ (.slice v.b.a2 D.B.D.n v.b.c2)).setCell ⟨zr, 2, none⟩ (.slice v.a D.n v.q)).setCell ⟨zr, 3, none⟩ (.int .i64 D.h)) v D ∧ Blw w ((((W.setCell ⟨zr, 0, none⟩ (.slice v.b.a1 D.B.n v.b.c1)).setCell ⟨zr, 1, none⟩ (.slice v.b.a2 D.B.D.n v.b.c2)).setCell ⟨zr, 2, none⟩ (.slice v.a D.n v.q)).setCell ⟨zr, 3, none⟩ (.int .i64 D.h)) := by
  have m := set4_mod (w := W) (z := zr) (.slice v.b.a1 D.B.n v.b.c1) (.slice v.b.a2 D.B.D.n v.b.c2) (.slice v.a D.n v.q) (.int .i64 D.h)
  have hs := m.size
  have hl := h.od
  exact ⟨(h.hv.mod m (fun x hx e => hx.1.2.2 e)).mono (fun x hx => by omega), Mod.blw h.hb m (fun i hi => by omega)⟩
theorem ms_start (lo zx : Nat) (v : KV) (D : KD) (k a g y : Int) (Y : Nat → Prop) (w : World) (hY : ∀ x, Y x → (lo ≤ x ∧ x ≠ zx) ∧ x < w.heap.size) (hlo : (lo ≤ w.heap.size ∧ zx < w.heap.size)) (h : WkAt Y w v D) : MS lo zx k a g y w (((w.alloc (.cells #[.slice v.b.a1 D.B.n v.b.c1, .slice v.b.a2 D.B.D.n v.b.c2, .slice v.a D.n v.q, .int .i64 D.h] 32)).alloc (.cells #[.int .i64 k, .int .i64 a, .int .i64 g, .int .i64 y] 42)).alloc (.cells #[.slice none 0 0, .slice none 0 0, .slice none 0 0, .int .i64 0] 32)) w.heap.size (w.heap.size + 1) (w.heap.size + 1 + 1) v D := by
  have r1 := box4 (w.alloc (.cells #[.slice v.b.a1 D.B.n v.b.c1, .slice v.b.a2 D.B.D.n v.b.c2, .slice v.a D.n v.q, .int .i64 D.h] 32)) (.int .i64 k) (.int .i64 a) (.int .i64 g) (.int .i64 y) 42
  have r2 := box4 ((w.alloc (.cells #[.slice v.b.a1 D.B.n v.b.c1, .slice v.b.a2 D.B.D.n v.b.c2, .slice v.a D.n v.q, .int .i64 D.h] 32)).alloc (.cells #[.int .i64 k, .int .i64 a, .int .i64 g, .int .i64 y] 42)) (.slice none 0 0) (.slice none 0 0) (.slice none 0 0) (.int .i64 0) 32
  rw [World.size_alloc] at r1
  rw [World.size_alloc, World.size_alloc] at r2
  have hb : Blw w (((w.alloc (.cells #[.slice v.b.a1 D.B.n v.b.c1, .slice v.b.a2 D.B.D.n v.b.c2, .slice v.a D.n v.q, .int .i64 D.h] 32)).alloc (.cells #[.int .i64 k, .int .i64 a, .int .i64 g, .int .i64 y] 42)).alloc (.cells #[.slice none 0 0, .slice none 0 0, .slice none 0 0, .int .i64 0] 32)) := (((Blw.refl _).alloc _).alloc _).alloc _
  exact ⟨((box4 w _ _ _ _ 32).blw ((Blw.refl _).alloc _)).blw ((Blw.refl _).alloc _), r1.blw ((Blw.refl _).alloc _), r2, (h.blw hb).mono (fun x hx => by have := hY x hx; simp only [World.size_alloc]; omega), hb, by omega, hlo⟩
set_option maxRecDepth 10000 in
set_option maxHeartbeats 6400000 in
theorem l7Step_chg (lo zx : Nat) (v : KV) (D : KD) (k a g y : Int) (Y : Nat → Prop) (w : World) (hr : rightS k a g y) (hk1 : ¬ k = 1) (hG : WG D) (hY : ∀ x, Y x → (lo ≤ x ∧ x ≠ zx) ∧ x < w.heap.size) (hlo : (lo ≤ w.heap.size ∧ zx < w.heap.size)) (h : WkAt Y w v D) :
    Calls Try.prog 86 #[v.val D, .agg #[.int .i64 k, .int .i64 a, .int .i64 g, .int .i64 y]] w fun e w' => ∃ v' R x, e = .returned (.tuple #[KV.val v' R, .int .i64 x]) ∧ WSO D k a g y R x ∧ WkAt (fun x => (lo ≤ x ∧ x ≠ zx) ∧ x < w'.heap.size) w' v' R ∧ Blw w w' := by
  have HM : Hid (MS lo zx k a g y w (((w.alloc (.cells #[.slice v.b.a1 D.B.n v.b.c1, .slice v.b.a2 D.B.D.n v.b.c2, .slice v.a D.n v.q, .int .i64 D.h] 32)).alloc (.cells #[.int .i64 k, .int .i64 a, .int .i64 g, .int .i64 y] 42)).alloc (.cells #[.slice none 0 0, .slice none 0 0, .slice none 0 0, .int .i64 0] 32)) w.heap.size (w.heap.size + 1) (w.heap.size + 1 + 1) v D) := ms_start lo zx v D k a g y Y w hY hlo h
  have HG : Hid (WG D) := hG
  have HRI : Hid (rightS k a g y) := hr
  clear h hY hG hr hlo
  go_enter Try.func86, Try.ntmps86
  obtain ⟨p0, p1, p2, p3⟩ := get4 HM.out.r2
  obtain ⟨s0, s1, s2, s3⟩ := get4 HM.out.rs
  have d1 : (k != 1) = true := by simp [hk1]
  have HK1 : Hid (¬ k = 1) := hk1
  have HK : Hid (k = 2 ∨ k = 3 ∨ k = 4) := right_k HRI.out hk1
  clear hk1
  go_wp2_with fail
  clear p0 p1 p2 p3 s0 s1 s2 s3 d1
  generalize (((w.alloc (.cells #[.slice v.b.a1 D.B.n v.b.c1, .slice v.b.a2 D.B.D.n v.b.c2, .slice v.a D.n v.q, .int .i64 D.h] 32)).alloc (.cells #[.int .i64 k, .int .i64 a, .int .i64 g, .int .i64 y] 42)).alloc (.cells #[.slice none 0 0, .slice none 0 0, .slice none 0 0, .int .i64 0] 32)) = W0 at *
  generalize w.heap.size + 1 + 1 = zr at *
  generalize w.heap.size + 1 = zs at *
  refine (specChg_any v.b D.B k a g y _ _ (by have := HG.out.g.n; omega) HK.out HM.out.hv.t).mono ?_
  rintro e w1 ⟨b3, RB, r, rfl, ho, -, own, hb1⟩
  have HO : Hid (chgO D.B k a g y RB r) := ho
  have hA : Blw w1 (w1.alloc (.cells #[.slice b3.a1 RB.n b3.c1, .slice b3.a2 RB.D.n b3.c2] 29)) := (Blw.refl _).alloc _
  have HB2 : Hid (Row (w1.alloc (.cells #[.slice b3.a1 RB.n b3.c1, .slice b3.a2 RB.D.n b3.c2] 29)) w1.heap.size 2 (fun i => if i = 0 then .slice b3.a1 RB.n b3.c1 else .slice b3.a2 RB.D.n b3.c2)) := box2 w1 _ _ 29
  have HOW : Hid (BookAt (fun x => (x < (w1.alloc (.cells #[.slice b3.a1 RB.n b3.c1, .slice b3.a2 RB.D.n b3.c2] 29)).heap.size ∧ x ≠ w.heap.size ∧ x ≠ zr) ∧ (lo ≤ x ∧ x ≠ zx)) (w1.alloc (.cells #[.slice b3.a1 RB.n b3.c1, .slice b3.a2 RB.D.n b3.c2] 29)) b3 RB) := (own.at.blw hA).mono (fun x hx => by
    have h1 := HM.out.r2.lt
    have h2 := HM.out.r4.lt
    have h3 := HM.out.hb.size
    have h4 := HM.out.l0
    rw [World.size_alloc]; omega)
  replace HM : Hid (MS lo zx k a g y w (w1.alloc (.cells #[.slice b3.a1 RB.n b3.c1, .slice b3.a2 RB.D.n b3.c2] 29)) w.heap.size zs zr v D) := HM.out.blw (hb1.trans hA)
  clear ho own hb1 hA
  cases r
  · go_upto_region 4 with fail
    generalize (w1.alloc (.cells #[.slice b3.a1 RB.n b3.c1, .slice b3.a2 RB.D.n b3.c2] 29)) = W1 at *
    obtain ⟨p0, p1, p2, p3⟩ := get4 HM.out.r2
    obtain ⟨t0, t1, t2, t3⟩ := get4 HM.out.r4
    have f0 := HM.out.r4.frozen 0
    have f1 := HM.out.r4.frozen 1
    have f2 := HM.out.r4.frozen 2
    have f3 := HM.out.r4.frozen 3
    have FIN : Hid _ := HM.out.fin
    have HWS : Hid (WSO D k a g y D 0) := Or.inr ⟨HK1.out, D.B, false, ⟨RB, HO.out, Or.inr ⟨rfl, rfl⟩⟩, Or.inr ⟨rfl, rfl, rfl⟩⟩
    clear HM HO HOW HB2 HG HRI HK HK1
    go_wp2
    exact bodyPost_ret (v := .tuple #[KV.val v D, .int .i64 0]) (by simp [results, Try.results86, go_sem, t0, t1, t2, t3]) rfl ⟨_, _, _, rfl, HWS.out, FIN.out⟩
  · go_upto_region 5 with fail
    generalize (w1.alloc (.cells #[.slice b3.a1 RB.n b3.c1, .slice b3.a2 RB.D.n b3.c2] 29)) = W1 at *
    generalize w1.heap.size = zt at *
    obtain ⟨q0, q1⟩ := get2 HB2.out
    obtain ⟨p0, p1, p2, p3⟩ := get4 HM.out.r2
    have f0 := HM.out.r2.frozen 0
    have f1 := HM.out.r2.frozen 1
    have HM5 : Hid _ := HM.out.tab HOW.out
    go_upto_region 6 with fail
    clear q0 q1 p0 p1 p2 p3 f0 f1 HM HB2 HOW
    generalize ((W1.setCell ⟨w.heap.size, 0, none⟩ (.slice b3.a1 RB.n b3.c1)).setCell ⟨w.heap.size, 1, none⟩ (.slice b3.a2 RB.D.n b3.c2)) = W5 at *
    obtain ⟨p0, p1, p2, p3⟩ := get4 HM5.out.r2
    obtain ⟨s0, s1, s2, s3⟩ := get4 HM5.out.rs
    obtain ⟨q, hat⟩ := HG.out.pos a
    go_wp2_with fail
    clear p0 p1 p2 p3 s0 s1 s2 s3
    refine (l7Drop_any v.a D.n v.q q D.F a _ _ (by have := HG.out.n4; omega) hat.2 HM5.out.hv.k).mono ?_
    rintro e w6 ⟨v6, rfl, hbf, hb6⟩
    obtain ⟨a6, c6, rfl, -, -, hk6⟩ := Buf.ways hbf (by have := HG.out.n4; unfold cntK; split <;> omega)
    have HK6 : Hid (KAt 3 (fun x => (x < w6.heap.size ∧ x ≠ w.heap.size ∧ x ≠ zr) ∧ (lo ≤ x ∧ x ≠ zx)) w6 a6 (cntK q D.n) (dropK q D.F)) := hk6.at.mono (fun x hx => by
      have h1 := HM5.out.r2.lt
      have h2 := HM5.out.r4.lt
      have h3 := HM5.out.hb.size
      have h4 := HM5.out.l0
      omega)
    have HM6 : Hid (MS lo zx k a g y w w6 w.heap.size zs zr ⟨b3, v.a, v.q⟩ ⟨RB, D.n, D.F, D.h⟩) := HM5.out.blw hb6
    clear hbf hk6 hb6 HM5
    obtain ⟨-, -, p2, -⟩ := get4 HM6.out.r2
    have f2 := HM6.out.r2.frozen 2
    have HM : Hid (MS lo zx k a g y w (w6.setCell ⟨w.heap.size, 2, none⟩ (.slice a6 (cntK q D.n) c6)) w.heap.size zs zr ⟨b3, a6, c6⟩ ⟨RB, cntK q D.n, dropK q D.F, D.h⟩) := HM6.out.list HK6.out
    go_upto_region 7 with fail
    clear p2 f2 HM6 HK6
    generalize (w6.setCell ⟨w.heap.size, 2, none⟩ (.slice a6 (cntK q D.n) c6)) = W7 at *
    obtain ⟨p0, p1, p2, p3⟩ := get4 HM.out.r2
    obtain ⟨t0, t1, t2, t3⟩ := get4 HM.out.r4
    have f0 := HM.out.r4.frozen 0
    have f1 := HM.out.r4.frozen 1
    have f2 := HM.out.r4.frozen 2
    have f3 := HM.out.r4.frozen 3
    have FIN : Hid _ := HM.out.fin
    have HWS : Hid (WSO D k a g y ⟨RB, cntK q D.n, dropK q D.F, D.h⟩ 1) := Or.inr ⟨HK1.out, RB, true, ⟨RB, HO.out, Or.inl ⟨rfl, rfl⟩⟩, Or.inl ⟨rfl, rfl, q, hat, rfl⟩⟩
    clear HM HO HG HRI HK HK1 hat
    go_wp2
    exact bodyPost_ret (v := .tuple #[KV.val ⟨b3, a6, c6⟩ ⟨RB, cntK q D.n, dropK q D.F, D.h⟩, .int .i64 1]) (by simp [results, Try.results86, go_sem, t0, t1, t2, t3]) rfl ⟨_, _, _, rfl, HWS.out, FIN.out⟩
end Go.Proofs.Ytbpdopcdhnemfaa
