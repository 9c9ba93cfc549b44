/- Lists of steps played by a table: the program's PlayPlain. -/
import Derived.Test.YtkadjebncjcclaaPlayP
import Derived.Test.YtkadjebncjcclaaSteps
import Derived.Test.YtkadjebncjcclaaNewI
namespace Go.Proofs.Ytkadjebncjcclaa
open Go.RowKit
set_option linter.unusedSimpArgs false
set_option linter.unusedVariables false
/-- Tables Bs and answers A of the first j steps F, from B on. -/
def Plays (B : BD) (F : Nat → Nat → Int) (j : Nat) (Bs : Nat → BD) (A : Nat → Int) : Prop :=
  Bs 0 = B ∧ ∀ i, i < j → PSF (Bs i) (F i 0) (F i 1) (F i 2) (F i 3) (Bs (i + 1)) (A i)
theorem Plays.next {B R : BD} {F : Nat → Nat → Int} {j : Nat} {Bs : Nat → BD} {A : Nat → Int} {v : Int} (h : Plays B F j Bs A) (h1 : PSF (Bs j) (F j 0) (F j 1) (F j 2) (F j 3) R v) : Plays B F (j + 1) (fun i => if i = j + 1 then R else Bs i) (fun i => if i = j then v else A i) := by
  refine ⟨by show (if 0 = j + 1 then R else Bs 0) = B; rw [if_neg (by omega)]; exact h.1, fun i hi => ?_⟩
  have e0 : ¬ i = j + 1 := by omega
  by_cases e : i = j
  · subst e
    simp only [if_neg e0, if_pos]
    exact h1
  · have e1 : ¬ i + 1 = j + 1 := by omega
    simp only [if_neg e0, if_neg e, if_neg e1]
    exact h.2 i (by omega)
theorem Plays.same {B : BD} {F : Nat → Nat → Int} {Bs Bs' : Nat → BD} {A A' : Nat → Int} : ∀ {j : Nat}, Plays B F j Bs A → Plays B F j Bs' A' → (∀ i, i ≤ j → Bs i = Bs' i) ∧ ∀ i, i < j → A i = A' i := by
  intro j h h'
  have key : ∀ i, i ≤ j → Bs i = Bs' i ∧ (∀ t, t < i → A t = A' t) := by
    intro i
    induction i with
    | zero => intro _; exact ⟨h.1.trans h'.1.symm, fun t ht => absurd ht (Nat.not_lt_zero _)⟩
    | succ i ih =>
      intro hi
      obtain ⟨e1, e2⟩ := ih (by omega)
      have p1 := h.2 i (by omega)
      have p2 := h'.2 i (by omega)
      rw [← e1] at p2
      obtain ⟨e3, e4⟩ := PSF_same p1 p2
      refine ⟨e3, fun t ht => ?_⟩
      by_cases e : t = i
      · subst e; exact e4
      · exact e2 t (by omega)
  exact ⟨fun i hi => (key i hi).1, fun i hi => (key j (Nat.le_refl _)).2 i hi⟩
theorem modNew {X : Nat → Prop} {a b c : World} (h : Mod X a b) (k : Mod (fun x => x = a.heap.size) b c) : Mod X a c :=
  ⟨k.os.trans h.os, k.tape.trans h.tape, k.output.trans h.output, Nat.le_trans h.size k.size, fun i hi hx => (k.block i (Nat.lt_of_lt_of_le hi h.size) (fun e => by omega)).trans (h.block i hi hx)⟩
/-- The list at ao has the n answers A of the steps. -/
def plRow (n j : Nat) (A : Nat → Int) : Nat → Value := fun i => .int .i64 (if i < j then A i else 0)
theorem plRow_set {w : World} {z n j : Nat} {A : Nat → Int} {v : Int} (r : Row w z n (plRow n j A)) : Row (w.setCell ⟨z, j, none⟩ (.int .i64 v)) z n (plRow n (j + 1) (fun i => if i = j then v else A i)) :=
  (r.set j _).congr (fun i hi => by
    unfold plRow
    by_cases e : i = j
    · subst e; simp
    · by_cases e2 : i < j
      · have e3 : i < j + 1 := by omega
        simp [e, e2, e3]
      · have e3 : ¬ i < j + 1 := by omega
        simp [e, e2, e3])
set_option maxRecDepth 10000 in
set_option maxHeartbeats 6400000 in
theorem eachP_any (E : Nat → Prop) (zt zf : Nat) (b : BV) (B : BD) (ao : Option Addr) (n c : Nat) (F : Nat → Nat → Int) (w : World) (hn : n ≤ 1048576) (hE : ∀ x, E x → x < w.heap.size) (hzf : zf ≠ zt) (h : TS E w zt b B) (hf : Row w zf 1 (fun _ => .func (.func 61) #[] #[.pointer (some ⟨zt, 0, none⟩)])) (hl : KAt 4 (fun x => x < w.heap.size ∧ x ≠ zt) w ao n F) :
    Calls Try.prog 100 #[.slice ao n c, .func (.func 101) #[] #[.pointer (some ⟨zf, 0, none⟩)]] w fun e w' => ∃ Bs A b', e = .returned (.slice (some ⟨w.heap.size, 0, none⟩) n n) ∧ Plays B F n Bs A ∧ Row w' w.heap.size n (plRow n n A) ∧ TS E w' zt b' (Bs n) ∧ Mod (fun x => x = zt) w w' := by
  have hmk := mkInts n hn
  have hA : Blw w (w.alloc (.cells (madeCells #[.int .i64 0] n) 3)) := (Blw.refl _).alloc _
  have HT : Hid (TS (fun x => E x ∨ x = w.heap.size) (w.alloc (.cells (madeCells #[.int .i64 0] n) 3)) zt b B) := ⟨h.box.blw hA, (h.at_.blw hA).mono (fun x hx => ⟨fun e => e.elim hx.1 (fun e => by omega), by simp; omega, hx.2.2⟩)⟩
  have HR : Hid (Row (w.alloc (.cells (madeCells #[.int .i64 0] n) 3)) w.heap.size n (plRow n 0 (fun _ => 0))) := (Row.made w (.int .i64 0) n 3).congr (fun i hi => by unfold plRow; simp)
  have HF : Hid (Row (w.alloc (.cells (madeCells #[.int .i64 0] n) 3)) zf 1 (fun _ => .func (.func 61) #[] #[.pointer (some ⟨zt, 0, none⟩)])) := hf.blw hA
  have HM : Hid (Mod (fun x => x = zt) w (w.alloc (.cells (madeCells #[.int .i64 0] n) 3))) := hA.mod _
  have HL : Hid (KAt 4 (fun x => x < w.heap.size ∧ x ≠ zt) w ao n F) := hl
  have hzt := h.box.lt
  have hzfl := hf.lt
  clear h hf hl hA
  go_enter Try.func100, Try.ntmps100
  go_wp2_with fail
  clear hmk
  generalize w.alloc (.cells (madeCells #[.int .i64 0] n) 3) = W at *
  go_loopw [13] (fun i wr => ∃ j : Nat, j ≤ n ∧ i = .int .i64 j ∧ ∃ Bs A b', Plays B F j Bs A ∧ Row wr w.heap.size n (plRow n j A) ∧ TS (fun x => E x ∨ x = w.heap.size) wr zt b' (Bs j) ∧ Row wr zf 1 (fun _ => .func (.func 61) #[] #[.pointer (some ⟨zt, 0, none⟩)]) ∧ Mod (fun x => x = zt) w wr) (fun i _ => n - (intOf i).toNat)
  case atStart => exact ⟨0, Nat.zero_le _, rfl, fun _ => B, fun _ => 0, b, ⟨rfl, fun i hi => absurd hi (Nat.not_lt_zero _)⟩, HR.out, HT.out, HF.out, HM.out⟩
  case round =>
    clear HR HT HF HM
    obtain ⟨j, hj, rfl, Bs, A, b1, hP, hR, hT, hF, hM⟩ := hrel
    have HP : Hid (Plays B F j Bs A) := hP
    have HM : Hid (Mod (fun x => x = zt) w wr) := hM
    by_cases hlt : j < n
    · have hlt' : (j : Int) < (n : Int) := by omega
      have hA2 : Blw wr (wr.alloc (.cells #[.int .i64 (F j 0), .int .i64 (F j 1), .int .i64 (F j 2), .int .i64 (F j 3)] 42)) := (Blw.refl _).alloc _
      have HT : Hid (TS (fun x => E x ∨ x = w.heap.size) (wr.alloc (.cells #[.int .i64 (F j 0), .int .i64 (F j 1), .int .i64 (F j 2), .int .i64 (F j 3)] 42)) zt b1 (Bs j)) := hT.blw hA2
      have HR : Hid (Row (wr.alloc (.cells #[.int .i64 (F j 0), .int .i64 (F j 1), .int .i64 (F j 2), .int .i64 (F j 3)] 42)) w.heap.size n (plRow n j A)) := hR.blw hA2
      have HF : Hid (Row (wr.alloc (.cells #[.int .i64 (F j 0), .int .i64 (F j 1), .int .i64 (F j 2), .int .i64 (F j 3)] 42)) zf 1 (fun _ => .func (.func 61) #[] #[.pointer (some ⟨zt, 0, none⟩)])) := hF.blw hA2
      have HS : Hid (Row (wr.alloc (.cells #[.int .i64 (F j 0), .int .i64 (F j 1), .int .i64 (F j 2), .int .i64 (F j 3)] 42)) wr.heap.size 4 (fun i => if i = 0 then .int .i64 (F j 0) else if i = 1 then .int .i64 (F j 1) else if i = 2 then .int .i64 (F j 2) else .int .i64 (F j 3))) := box4 wr _ _ _ _ 42
      have HM2 : Hid (Mod (fun x => x = zt) w (wr.alloc (.cells #[.int .i64 (F j 0), .int .i64 (F j 1), .int .i64 (F j 2), .int .i64 (F j 3)] 42))) := hM.trans (hA2.mod _)
      have hsz := hA2.size
      have HE : Hid (∀ x, (fun x => E x ∨ x = w.heap.size) x → x < (wr.alloc (.cells #[.int .i64 (F j 0), .int .i64 (F j 1), .int .i64 (F j 2), .int .i64 (F j 3)] 42)).heap.size) := fun x hx => by
        have h1 := hR.lt
        rcases hx with h2 | h2
        · have := hE x h2; omega
        · omega
      obtain ⟨bl, o, rfl, -, g⟩ := (HL.out.mod hM (fun x hx e => hx.2 e)).2 j hlt
      have g0 := g 0 (by omega)
      have g1 := g 1 (by omega)
      have g2 := g 2 (by omega)
      have g3 := g 3 (by omega)
      rw [Nat.add_zero] at g0
      clear g hP hR hT hF hM hA2 hsz
      obtain ⟨s0, s1, s2, s3⟩ := get4 HS.out
      have HN : Hid (∀ (R : BD) (v : Int), PSF (Bs j) (F j 0) (F j 1) (F j 2) (F j 3) R v → Plays B F (j + 1) (fun i => if i = j + 1 then R else Bs i) (fun i => if i = j then v else A i)) := fun R v h1 => HP.out.next h1
      clear HP
      generalize F j 0 = x0 at *
      generalize F j 1 = x1 at *
      generalize F j 2 = x2 at *
      generalize F j 3 = x3 at *
      go_wp2_with fail
      clear s0 s1 s2 s3 g0 g1 g2 g3
      generalize wr.alloc (.cells #[.int .i64 x0, .int .i64 x1, .int .i64 x2, .int .i64 x3] 42) = wp at *
      refine (answerP_any (fun x => E x ∨ x = w.heap.size) zt zf b1 (Bs j) x0 x1 x2 x3 _ HE.out HT.out HF.out).mono ?_
      rintro e w2 ⟨b2, R, v, rfl, ho, ht, hm⟩
      have HN2 : Hid (∃ Bs2 A2 b2', Plays B F (j + 1) Bs2 A2 ∧ Row (w2.setCell ⟨w.heap.size, j, none⟩ (.int .i64 v)) w.heap.size n (plRow n (j + 1) A2) ∧ TS (fun x => E x ∨ x = w.heap.size) (w2.setCell ⟨w.heap.size, j, none⟩ (.int .i64 v)) zt b2' (Bs2 (j + 1)) ∧ Row (w2.setCell ⟨w.heap.size, j, none⟩ (.int .i64 v)) zf 1 (fun _ => .func (.func 61) #[] #[.pointer (some ⟨zt, 0, none⟩)]) ∧ Mod (fun x => x = zt) w (w2.setCell ⟨w.heap.size, j, none⟩ (.int .i64 v))) := by
        have ms : Mod (fun x => x = w.heap.size) w2 (w2.setCell ⟨w.heap.size, j, none⟩ (.int .i64 v)) := Mod.setCell (X := fun x => x = w.heap.size) _ (p := ⟨w.heap.size, j, none⟩) rfl _
        have hs := ms.size
        have e1 : (if j + 1 = j + 1 then R else Bs (j + 1)) = R := by simp
        refine ⟨_, _, b2, HN.out R v ho, plRow_set (HR.out.mod hm (by omega)), ?_, (HF.out.mod hm hzf).mod ms (by omega), ?_⟩
        · show TS _ _ _ _ (if j + 1 = j + 1 then R else Bs (j + 1))
          rw [e1]
          exact ht.mod ms (by omega) (fun x hx => Or.inr hx)
        · exact modNew (HM2.out.trans hm) ms
      have rz := HR.out.mod hm (by omega)
      obtain ⟨vv, gv⟩ : ∃ v, w2.cell? ⟨w.heap.size, j, none⟩ = some v := ⟨_, rz.cell hlt⟩
      have gz := rz.frozen j
      clear HN ho ht hm HR HF HS HM2 HE HT rz
      go_wp2
      go_roundw
      case rel => exact ⟨j + 1, by omega, by go_num, HN2.out⟩
      case measure => simp [intOf]; omega
    · obtain rfl : j = n := by omega
      have FP : Hid (Plays B F j Bs A) := hP
      have FR : Hid (Row wr w.heap.size j (plRow j j A)) := hR
      have FT : Hid (TS E wr zt b1 (Bs j)) := ⟨hT.box, hT.at_.mono (fun x hx => ⟨fun e => hx.1 (Or.inl e), hx.2⟩)⟩
      have FM : Hid (Mod (fun x => x = zt) w wr) := hM
      clear hP hR hT hF hM HP HM
      go_wp2
      exact bodyPost_ret (v := .slice (some ⟨w.heap.size, 0, none⟩) j j) (by simp [results, Try.results100, go_sem]) rfl (by first | exact ⟨rfl, Bs, A, FP.out, FR.out, ⟨b1, FT.out⟩, FM.out⟩ | exact ⟨Bs, A, b1, rfl, FP.out, FR.out, FT.out, FM.out⟩)
end Go.Proofs.Ytkadjebncjcclaa
