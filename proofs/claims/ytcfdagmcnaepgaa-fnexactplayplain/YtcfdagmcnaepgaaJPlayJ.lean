/- Lists of steps played by a table: both sides' PlayPlain. -/
import Derived.Deep.RegionHeld3
import Derived.Test.YtcfdagmcnaepgaaJoin9
namespace Go.Proofs.Ytcfdagmcnaepgaa
open Go.RowKit
set_option linter.unusedSimpArgs false
set_option linter.unusedVariables false
/-- Tables Bs and answers A of the first j steps F, from B on. -/
def Plays (B : BD) (F : Nat → Nat → Int) (j : Nat) (Bs : Nat → BD) (A : Nat → Int) : Prop :=
  Bs 0 = B ∧ ∀ i, i < j → PSF (Bs i) (F i 0) (F i 1) (F i 2) (F i 3) (Bs (i + 1)) (A i)
theorem Plays.next {B R : BD} {F : Nat → Nat → Int} {j : Nat} {Bs : Nat → BD} {A : Nat → Int} {v : Int} (h : Plays B F j Bs A) (h1 : PSF (Bs j) (F j 0) (F j 1) (F j 2) (F j 3) R v) : Plays B F (j + 1) (fun i => if i = j + 1 then R else Bs i) (fun i => if i = j then v else A i) := by
  refine ⟨by show (if 0 = j + 1 then R else Bs 0) = B; rw [if_neg (by omega)]; exact h.1, fun i hi => ?_⟩
  have e0 : ¬ i = j + 1 := by omega
  by_cases e : i = j
  · subst e
    simp only [if_neg e0, if_pos]
    exact h1
  · have e1 : ¬ i + 1 = j + 1 := by omega
    simp only [if_neg e0, if_neg e, if_neg e1]
    exact h.2 i (by omega)
theorem Plays.same {B : BD} {F : Nat → Nat → Int} {Bs Bs' : Nat → BD} {A A' : Nat → Int} : ∀ {j : Nat}, Plays B F j Bs A → Plays B F j Bs' A' → (∀ i, i ≤ j → Bs i = Bs' i) ∧ ∀ i, i < j → A i = A' i := by
  intro j h h'
  have key : ∀ i, i ≤ j → Bs i = Bs' i ∧ (∀ t, t < i → A t = A' t) := by
    intro i
    induction i with
    | zero => intro _; exact ⟨h.1.trans h'.1.symm, fun t ht => absurd ht (Nat.not_lt_zero _)⟩
    | succ i ih =>
      intro hi
      obtain ⟨e1, e2⟩ := ih (by omega)
      have p1 := h.2 i (by omega)
      have p2 := h'.2 i (by omega)
      rw [← e1] at p2
      obtain ⟨e3, e4⟩ := PSF_same p1 p2
      refine ⟨e3, fun t ht => ?_⟩
      by_cases e : t = i
      · subst e; exact e4
      · exact e2 t (by omega)
  exact ⟨fun i hi => (key i hi).1, fun i hi => (key j (Nat.le_refl _)).2 i hi⟩
theorem modNew {X : Nat → Prop} {a b c : World} (h : Mod X a b) (k : Mod (fun x => x = a.heap.size) b c) : Mod X a c :=
  ⟨k.os.trans h.os, k.tape.trans h.tape, k.output.trans h.output, Nat.le_trans h.size k.size, fun i hi hx => (k.block i (Nat.lt_of_lt_of_le hi h.size) (fun e => by omega)).trans (h.block i hi hx)⟩
/-- The list at ao has the n answers A of the steps. -/
def plRow (n j : Nat) (A : Nat → Int) : Nat → Value := fun i => .int .i64 (if i < j then A i else 0)
theorem plRow_set {w : World} {z n j : Nat} {A : Nat → Int} {v : Int} (r : Row w z n (plRow n j A)) : Row (w.setCell ⟨z, j, none⟩ (.int .i64 v)) z n (plRow n (j + 1) (fun i => if i = j then v else A i)) :=
  (r.set j _).congr (fun i hi => by
    unfold plRow
    by_cases e : i = j
    · subst e; simp
    · by_cases e2 : i < j
      · have e3 : i < j + 1 := by omega
        simp [e, e2, e3]
      · have e3 : ¬ i < j + 1 := by omega
        simp [e, e2, e3])
set_option maxRecDepth 10000 in
set_option maxHeartbeats 6400000 in
theorem eachP_any (E : Nat → Prop) (zt zf : Nat) (b : BV) (B : BD) (ao : Option Addr) (n c : Nat) (F : Nat → Nat → Int) (w : World) (hn : n ≤ 1048576) (hE : ∀ x, E x → x < w.heap.size) (hzf : zf ≠ zt) (h : TS E w zt b B) (hf : Row w zf 1 (fun _ => .func (.func 88) #[] #[.pointer (some ⟨zt, 0, none⟩)])) (hl : KAt 4 (fun x => x < w.heap.size ∧ x ≠ zt) w ao n F) :
    Calls Try.prog 107 #[.slice ao n c, .func (.func 108) #[] #[.pointer (some ⟨zf, 0, none⟩)]] w fun e w' => ∃ Bs A b', e = .returned (.slice (some ⟨w.heap.size, 0, none⟩) n n) ∧ Plays B F n Bs A ∧ Row w' w.heap.size n (plRow n n A) ∧ TS E w' zt b' (Bs n) ∧ Mod (fun x => x = zt) w w' := by
  have hmk := mkInts n hn
  have hA : Blw w (w.alloc (.cells (madeCells #[.int .i64 0] n) 3)) := (Blw.refl _).alloc _
  have HT : Hid (TS (fun x => E x ∨ x = w.heap.size) (w.alloc (.cells (madeCells #[.int .i64 0] n) 3)) zt b B) := ⟨h.box.blw hA, (h.at_.blw hA).mono (fun x hx => ⟨fun e => e.elim hx.1 (fun e => by omega), by simp; omega, hx.2.2⟩)⟩
  have HR : Hid (Row (w.alloc (.cells (madeCells #[.int .i64 0] n) 3)) w.heap.size n (plRow n 0 (fun _ => 0))) := (Row.made w (.int .i64 0) n 3).congr (fun i hi => by unfold plRow; simp)
  have HF : Hid (Row (w.alloc (.cells (madeCells #[.int .i64 0] n) 3)) zf 1 (fun _ => .func (.func 88) #[] #[.pointer (some ⟨zt, 0, none⟩)])) := hf.blw hA
  have HM : Hid (Mod (fun x => x = zt) w (w.alloc (.cells (madeCells #[.int .i64 0] n) 3))) := hA.mod _
  have HL : Hid (KAt 4 (fun x => x < w.heap.size ∧ x ≠ zt) w ao n F) := hl
  have hzt := h.box.lt
  have hzfl := hf.lt
  clear h hf hl hA
  go_enter Try.func107, Try.ntmps107
  go_wp2_with fail
  clear hmk
  generalize w.alloc (.cells (madeCells #[.int .i64 0] n) 3) = W at *
  go_loopw [13] (fun i wr => ∃ j : Nat, j ≤ n ∧ i = .int .i64 j ∧ ∃ Bs A b', Plays B F j Bs A ∧ Row wr w.heap.size n (plRow n j A) ∧ TS (fun x => E x ∨ x = w.heap.size) wr zt b' (Bs j) ∧ Row wr zf 1 (fun _ => .func (.func 88) #[] #[.pointer (some ⟨zt, 0, none⟩)]) ∧ Mod (fun x => x = zt) w wr) (fun i _ => n - (intOf i).toNat)
  case atStart => exact ⟨0, Nat.zero_le _, rfl, fun _ => B, fun _ => 0, b, ⟨rfl, fun i hi => absurd hi (Nat.not_lt_zero _)⟩, HR.out, HT.out, HF.out, HM.out⟩
  case round =>
    clear HR HT HF HM
    obtain ⟨j, hj, rfl, Bs, A, b1, hP, hR, hT, hF, hM⟩ := hrel
    have HP : Hid (Plays B F j Bs A) := hP
    have HM : Hid (Mod (fun x => x = zt) w wr) := hM
    by_cases hlt : j < n
    · have hlt' : (j : Int) < (n : Int) := by omega
      have hA2 : Blw wr (wr.alloc (.cells #[.int .i64 (F j 0), .int .i64 (F j 1), .int .i64 (F j 2), .int .i64 (F j 3)] 103)) := (Blw.refl _).alloc _
      have HT : Hid (TS (fun x => E x ∨ x = w.heap.size) (wr.alloc (.cells #[.int .i64 (F j 0), .int .i64 (F j 1), .int .i64 (F j 2), .int .i64 (F j 3)] 103)) zt b1 (Bs j)) := hT.blw hA2
      have HR : Hid (Row (wr.alloc (.cells #[.int .i64 (F j 0), .int .i64 (F j 1), .int .i64 (F j 2), .int .i64 (F j 3)] 103)) w.heap.size n (plRow n j A)) := hR.blw hA2
      have HF : Hid (Row (wr.alloc (.cells #[.int .i64 (F j 0), .int .i64 (F j 1), .int .i64 (F j 2), .int .i64 (F j 3)] 103)) zf 1 (fun _ => .func (.func 88) #[] #[.pointer (some ⟨zt, 0, none⟩)])) := hF.blw hA2
      have HS : Hid (Row (wr.alloc (.cells #[.int .i64 (F j 0), .int .i64 (F j 1), .int .i64 (F j 2), .int .i64 (F j 3)] 103)) wr.heap.size 4 (fun i => if i = 0 then .int .i64 (F j 0) else if i = 1 then .int .i64 (F j 1) else if i = 2 then .int .i64 (F j 2) else .int .i64 (F j 3))) := box4 wr _ _ _ _ 103
      have HM2 : Hid (Mod (fun x => x = zt) w (wr.alloc (.cells #[.int .i64 (F j 0), .int .i64 (F j 1), .int .i64 (F j 2), .int .i64 (F j 3)] 103))) := hM.trans (hA2.mod _)
      have hsz := hA2.size
      have HE : Hid (∀ x, (fun x => E x ∨ x = w.heap.size) x → x < (wr.alloc (.cells #[.int .i64 (F j 0), .int .i64 (F j 1), .int .i64 (F j 2), .int .i64 (F j 3)] 103)).heap.size) := fun x hx => by
        have h1 := hR.lt
        rcases hx with h2 | h2
        · have := hE x h2; omega
        · omega
      obtain ⟨bl, o, rfl, -, g⟩ := (HL.out.mod hM (fun x hx e => hx.2 e)).2 j hlt
      have g0 := g 0 (by omega)
      have g1 := g 1 (by omega)
      have g2 := g 2 (by omega)
      have g3 := g 3 (by omega)
      rw [Nat.add_zero] at g0
      clear g hP hR hT hF hM hA2 hsz
      obtain ⟨s0, s1, s2, s3⟩ := get4 HS.out
      have HN : Hid (∀ (R : BD) (v : Int), PSF (Bs j) (F j 0) (F j 1) (F j 2) (F j 3) R v → Plays B F (j + 1) (fun i => if i = j + 1 then R else Bs i) (fun i => if i = j then v else A i)) := fun R v h1 => HP.out.next h1
      clear HP
      generalize F j 0 = x0 at *
      generalize F j 1 = x1 at *
      generalize F j 2 = x2 at *
      generalize F j 3 = x3 at *
      go_wp2_with fail
      clear s0 s1 s2 s3 g0 g1 g2 g3
      generalize wr.alloc (.cells #[.int .i64 x0, .int .i64 x1, .int .i64 x2, .int .i64 x3] 103) = wp at *
      refine (answerP_any (fun x => E x ∨ x = w.heap.size) zt zf b1 (Bs j) x0 x1 x2 x3 _ HE.out HT.out HF.out).mono ?_
      rintro e w2 ⟨b2, R, v, rfl, ho, ht, hm⟩
      have HN2 : Hid (∃ Bs2 A2 b2', Plays B F (j + 1) Bs2 A2 ∧ Row (w2.setCell ⟨w.heap.size, j, none⟩ (.int .i64 v)) w.heap.size n (plRow n (j + 1) A2) ∧ TS (fun x => E x ∨ x = w.heap.size) (w2.setCell ⟨w.heap.size, j, none⟩ (.int .i64 v)) zt b2' (Bs2 (j + 1)) ∧ Row (w2.setCell ⟨w.heap.size, j, none⟩ (.int .i64 v)) zf 1 (fun _ => .func (.func 88) #[] #[.pointer (some ⟨zt, 0, none⟩)]) ∧ Mod (fun x => x = zt) w (w2.setCell ⟨w.heap.size, j, none⟩ (.int .i64 v))) := by
        have ms : Mod (fun x => x = w.heap.size) w2 (w2.setCell ⟨w.heap.size, j, none⟩ (.int .i64 v)) := Mod.setCell (X := fun x => x = w.heap.size) _ (p := ⟨w.heap.size, j, none⟩) rfl _
        have hs := ms.size
        have e1 : (if j + 1 = j + 1 then R else Bs (j + 1)) = R := by simp
        refine ⟨_, _, b2, HN.out R v ho, plRow_set (HR.out.mod hm (by omega)), ?_, (HF.out.mod hm hzf).mod ms (by omega), ?_⟩
        · show TS _ _ _ _ (if j + 1 = j + 1 then R else Bs (j + 1))
          rw [e1]
          exact ht.mod ms (by omega) (fun x hx => Or.inr hx)
        · exact modNew (HM2.out.trans hm) ms
      have rz := HR.out.mod hm (by omega)
      obtain ⟨vv, gv⟩ : ∃ v, w2.cell? ⟨w.heap.size, j, none⟩ = some v := ⟨_, rz.cell hlt⟩
      have gz := rz.frozen j
      clear HN ho ht hm HR HF HS HM2 HE HT rz
      go_wp2
      go_roundw
      case rel => exact ⟨j + 1, by omega, by go_num, HN2.out⟩
      case measure => simp [intOf]; omega
    · obtain rfl : j = n := by omega
      have FP : Hid (Plays B F j Bs A) := hP
      have FR : Hid (Row wr w.heap.size j (plRow j j A)) := hR
      have FT : Hid (TS E wr zt b1 (Bs j)) := ⟨hT.box, hT.at_.mono (fun x hx => ⟨fun e => hx.1 (Or.inl e), hx.2⟩)⟩
      have FM : Hid (Mod (fun x => x = zt) w wr) := hM
      clear hP hR hT hF hM HP HM
      go_wp2
      exact bodyPost_ret (v := .slice (some ⟨w.heap.size, 0, none⟩) j j) (by simp [results, Try.results107, go_sem]) rfl (by first | exact ⟨rfl, Bs, A, FP.out, FR.out, ⟨b1, FT.out⟩, FM.out⟩ | exact ⟨Bs, A, b1, rfl, FP.out, FR.out, FT.out, FM.out⟩)
end Go.Proofs.Ytcfdagmcnaepgaa
namespace Go.Proofs.Ytcfdagmcnaepgaa
open Go.RowKit
set_option linter.unusedSimpArgs false
set_option linter.unusedVariables false
theorem box1row (w : World) (u : Value) (t : TypeId) : Row (w.alloc (.cells #[u] t)) w.heap.size 1 (fun _ => u) :=
  Row.of_cells (heap_alloc_new w (.cells #[u] t)) (fun _ => u) (fun i hi => by obtain rfl : i = 0 := by simpa using hi
                                                                               rfl)
set_option maxRecDepth 10000 in
set_option maxHeartbeats 1600000 in
theorem answersTo_any (E : Nat → Prop) (zt : Nat) (b : BV) (B : BD) (ao : Option Addr) (n c : Nat) (F : Nat → Nat → Int) (w : World) (hn : n ≤ 1048576) (hE : ∀ x, E x → x < w.heap.size) (h : TS E w zt b B) (hl : KAt 4 (fun x => x < w.heap.size ∧ x ≠ zt) w ao n F) :
    Calls Try.prog 87 #[.slice ao n c, .func (.func 88) #[] #[.pointer (some ⟨zt, 0, none⟩)]] w fun e w' => ∃ z Bs A b', e = .returned (.slice (some ⟨z, 0, none⟩) n n) ∧ Plays B F n Bs A ∧ w.heap.size ≤ z ∧ Row w' z n (plRow n n A) ∧ TS E w' zt b' (Bs n) ∧ Mod (fun x => x = zt) w w' := by
  have hA : Blw w (w.alloc (.cells #[.func (.func 88) #[] #[.pointer (some ⟨zt, 0, none⟩)]] 112)) := (Blw.refl _).alloc _
  have HT : Hid (TS E (w.alloc (.cells #[.func (.func 88) #[] #[.pointer (some ⟨zt, 0, none⟩)]] 112)) zt b B) := h.blw hA
  have HF : Hid (Row (w.alloc (.cells #[.func (.func 88) #[] #[.pointer (some ⟨zt, 0, none⟩)]] 112)) w.heap.size 1 (fun _ => .func (.func 88) #[] #[.pointer (some ⟨zt, 0, none⟩)])) := box1row w _ _
  have HL : Hid (KAt 4 (fun x => x < (w.alloc (.cells #[.func (.func 88) #[] #[.pointer (some ⟨zt, 0, none⟩)]] 112)).heap.size ∧ x ≠ zt) (w.alloc (.cells #[.func (.func 88) #[] #[.pointer (some ⟨zt, 0, none⟩)]] 112)) ao n F) := (hl.blw hA).mono (fun x hx => ⟨Nat.lt_of_lt_of_le hx.1 hA.size, hx.2⟩)
  have HB : Hid (Blw w (w.alloc (.cells #[.func (.func 88) #[] #[.pointer (some ⟨zt, 0, none⟩)]] 112))) := hA
  have hz := h.box.lt
  have HZ : Hid (w.heap.size ≠ zt) := by show _ ≠ _; omega
  clear h hl hA hz
  go_enter Try.func87, Try.ntmps87
  go_wp2_with fail
  generalize w.alloc (.cells #[.func (.func 88) #[] #[.pointer (some ⟨zt, 0, none⟩)]] 112) = wp at *
  refine (eachP_any E zt w.heap.size b B ao n c F wp hn (fun x hx => Nat.lt_of_lt_of_le (hE x hx) HB.out.size) HZ.out HT.out HF.out HL.out).mono ?_
  rintro e w2 ⟨Bs, A, b2, rfl, hp, hr, ht, hm⟩
  have FIN : Hid (∃ z Bs A b', Ending.returned (.slice (some ⟨wp.heap.size, 0, none⟩) n n) = .returned (.slice (some ⟨z, 0, none⟩) n n) ∧ Plays B F n Bs A ∧ w.heap.size ≤ z ∧ Row w2 z n (plRow n n A) ∧ TS E w2 zt b' (Bs n) ∧ Mod (fun x => x = zt) w w2) := ⟨_, Bs, A, b2, rfl, hp, HB.out.size, hr, ht, (HB.out.mod _).trans hm⟩
  clear hp hr ht hm HT HF HL HB HZ
  go_wp2
  go_ret
  exact FIN.out
set_option maxRecDepth 10000 in
set_option maxHeartbeats 1600000 in
theorem tableToPlay_any (k : Int) (ao : Option Addr) (n c : Nat) (w : World) (hn : n ≤ 1048576) :
    Calls Try.prog 86 #[.int .i64 k, .slice ao n c] w (GivesB (resT (cntOK k ∧ n ≤ 60) (newB k)) w) := by
  have hb0 : Blw w (w.alloc (.cells #[.slice none 0 0, .slice none 0 0] 26)) := (Blw.refl _).alloc _
  have r0 := box2 w (.slice none 0 0) (.slice none 0 0) 26
  go_enter Try.func86, Try.ntmps86
  by_cases hle : n ≤ 60
  · have hle' : ¬ (n : Int) > 60 := by omega
    have HB : Hid (Blw w (w.alloc (.cells #[.slice none 0 0, .slice none 0 0] 26))) := hb0
    have HR : Hid (Row (w.alloc (.cells #[.slice none 0 0, .slice none 0 0] 26)) w.heap.size 2 (fun i => if i = 0 then .slice none 0 0 else .slice none 0 0)) := r0
    clear hb0 r0
    go_wp2_with fail
    clear hle'
    generalize w.alloc (.cells #[.slice none 0 0, .slice none 0 0] 26) = w0 at *
    refine (implNew_any k _).mono ?_
    rintro e w1 ⟨b, R, r, rfl, ho, hs, own, hb1⟩
    have hz := HR.out.lt
    replace HR : Hid (Row w1 w.heap.size 2 (fun i => if i = 0 then .slice none 0 0 else .slice none 0 0)) := HR.out.blw hb1
    have ho2 : resT (cntOK k ∧ n ≤ 60) (newB k) R r := ho.elim (fun ⟨h1, h2⟩ => Or.inl ⟨⟨h1, hle⟩, h2⟩) (fun ⟨h1, h2⟩ => Or.inr ⟨fun g => h1 g.1, h2⟩)
    have hm := set2_mod (X := fun x => x = w.heap.size) w1 rfl (.slice b.a1 R.n b.c1) (.slice b.a2 R.D.n b.c2)
    have hms := hm.size
    have hbs := HB.out.size
    have hb1s := hb1.size
    have FIN : Hid (GivesB (resT (cntOK k ∧ n ≤ 60) (newB k)) w (.returned (.tuple #[b.val R, .bool r])) ((w1.setCell ⟨w.heap.size, 0, none⟩ (.slice b.a1 R.n b.c1)).setCell ⟨w.heap.size, 1, none⟩ (.slice b.a2 R.D.n b.c2))) :=
      ⟨b, R, r, rfl, ho2, hs, (own.mod hm (fun x hx e => by omega)).mono (fun x hx => by omega), set2_blw (HB.out.trans hb1) (Nat.le_refl _) _ _⟩
    obtain ⟨t0, t1⟩ := get2 HR.out
    have f0 := HR.out.frozen 0
    have f1 := HR.out.frozen 1
    clear ho ho2 hs own hb1 HB HR hm hms hbs hb1s hz
    go_wp2
    exact bodyPost_ret (v := .tuple #[b.val R, .bool r]) (by simp [results, Try.results86, go_sem, t0, t1]) rfl FIN.out
  · have hle' : (n : Int) > 60 := by omega
    have FIN : Hid (GivesB (resT (cntOK k ∧ n ≤ 60) (newB k)) w (.returned (.tuple #[BV.zero.val BD.zero, .bool false])) (w.alloc (.cells #[.slice none 0 0, .slice none 0 0] 26))) := zero_givesT0 (Or.inr ⟨fun g => hle g.2, rfl, rfl⟩) hb0
    obtain ⟨t0, t1⟩ := get2 r0
    have f0 := r0.frozen 0
    have f1 := r0.frozen 1
    clear hb0 r0
    go_wp2
    exact bodyPost_ret (v := .tuple #[BV.zero.val BD.zero, .bool false]) (by simp [results, Try.results86, go_sem, t0, t1]) rfl FIN.out
/-- What PlayPlain answers. -/
def ppO (k : Int) (n : Nat) (F : Nat → Nat → Int) (N : Nat) (f : Nat → Int) (r : Bool) : Prop :=
  ((cntOK k ∧ n ≤ 60) ∧ r = true ∧ N = n ∧ ∃ Bs A, Plays (newB k) F n Bs A ∧ ∀ i, i < n → f i = A i) ∨ (¬ (cntOK k ∧ n ≤ 60) ∧ r = false ∧ N = 0)
theorem ppO_same {k : Int} {n : Nat} {F : Nat → Nat → Int} {N N' : Nat} {f f' : Nat → Int} {r r' : Bool} (h : ppO k n F N f r) (h' : ppO k n F N' f' r') : r = r' ∧ N = N' ∧ ∀ i, i < N → f i = f' i := by
  rcases h with ⟨g, rfl, rfl, Bs, A, hp, e⟩ | ⟨g, rfl, rfl⟩ <;> rcases h' with ⟨g', rfl, rfl, Bs', A', hp', e'⟩ | ⟨g', rfl, rfl⟩
  · exact ⟨rfl, rfl, fun i hi => (e i hi).trans (((hp.same hp').2 i hi).trans (e' i hi).symm)⟩
  · exact absurd g g'
  · exact absurd g' g
  · exact ⟨rfl, rfl, fun i hi => absurd hi (Nat.not_lt_zero _)⟩
set_option maxRecDepth 10000 in
set_option maxHeartbeats 1600000 in
theorem implPP_any (k : Int) (ao : Option Addr) (n c : Nat) (F : Nat → Nat → Int) (w : World) (hn : n ≤ 1048576) (hl : KAt 4 (fun x => x < w.heap.size) w ao n F) :
    Calls Try.prog 43 #[.int .i64 k, .slice ao n c] w (GivesI (ppO k n F) w) := by
  go_enter Try.func43, Try.ntmps43
  have HL : Hid (KAt 4 (fun x => x < w.heap.size) w ao n F) := hl
  clear hl
  go_wp2_with fail
  refine (tableToPlay_any k ao n c w hn).mono ?_
  rintro e w1 ⟨b, R, r, rfl, ho, hs, own, hb1⟩
  have HO : Hid (resT (cntOK k ∧ n ≤ 60) (newB k) R r) := ho
  have hA : Blw w1 (w1.alloc (.cells #[.slice b.a1 R.n b.c1, .slice b.a2 R.D.n b.c2] 26)) := (Blw.refl _).alloc _
  have HT : Hid (TS (fun _ : Nat => False) (w1.alloc (.cells #[.slice b.a1 R.n b.c1, .slice b.a2 R.D.n b.c2] 26)) w1.heap.size b R) := ⟨box2 w1 _ _ 26, (own.at.blw hA).mono (fun x hx => ⟨id, by simp; omega, by omega⟩)⟩
  have HB : Hid (Blw w (w1.alloc (.cells #[.slice b.a1 R.n b.c1, .slice b.a2 R.D.n b.c2] 26))) := hb1.trans hA
  have HL2 : Hid (KAt 4 (fun x => x < (w1.alloc (.cells #[.slice b.a1 R.n b.c1, .slice b.a2 R.D.n b.c2] 26)).heap.size ∧ x ≠ w1.heap.size) (w1.alloc (.cells #[.slice b.a1 R.n b.c1, .slice b.a2 R.D.n b.c2] 26)) ao n F) := (HL.out.blw (hb1.trans hA)).mono (fun x hx => by have h1 := hb1.size; have h2 := hA.size; omega)
  have HZ : Hid (w.heap.size ≤ w1.heap.size) := hb1.size
  clear ho hs own hb1 hA HL
  cases r
  · have HN : Hid (¬ (cntOK k ∧ n ≤ 60)) := HO.out.elim (fun g => by cases g.2.2) (fun g => g.1)
    have FIN : Hid _ := zero_givesI (out := ppO k n F) (w := w) (w1 := w1.alloc (.cells #[.slice b.a1 R.n b.c1, .slice b.a2 R.D.n b.c2] 26)) (Or.inr ⟨HN.out, rfl, rfl⟩) HB.out
    clear HO HT HB HL2 HZ HN
    go_wp2
    exact bodyPost_ret (v := .tuple #[.slice none 0 0, .bool false]) (by simp [results, Try.results43, go_sem]) rfl FIN.out
  have HY : Hid ((cntOK k ∧ n ≤ 60) ∧ R = newB k) := HO.out.elim (fun g => ⟨g.1, g.2.1⟩) (fun g => by cases g.2.2)
  clear HO
  go_wp2_with fail
  generalize w1.alloc (.cells #[.slice b.a1 R.n b.c1, .slice b.a2 R.D.n b.c2] 26) = wp at *
  refine (answersTo_any (fun _ : Nat => False) w1.heap.size b R ao n c F wp hn (fun x hx => hx.elim) HT.out HL2.out).mono ?_
  rintro e w2 ⟨z, Bs, A, b2, rfl, hp, hz, hr, ht, hm⟩
  have hzz := hr.lt
  have hbs := HB.out.size
  have FIN : Hid (GivesI (ppO k n F) w (.returned (.tuple #[.slice (some ⟨z, 0, none⟩) n n, .bool true])) w2) :=
    ⟨some ⟨z, 0, none⟩, n, n, A, true, rfl, Or.inl ⟨HY.out.1, rfl, rfl, Bs, A, HY.out.2 ▸ hp, fun i hi => rfl⟩, hn, ⟨by omega, fun hn => ⟨z, ⟨by omega, by omega⟩, rfl, hr.congr (fun i hi => by unfold plRow; rw [if_pos hi])⟩⟩, Mod.blw HB.out hm (fun i hi => by have := HZ.out; omega)⟩
  clear hp hr ht hm hz hzz hbs HT HB HL2 HZ HY
  go_wp2
  exact bodyPost_ret (v := .tuple #[.slice (some ⟨z, 0, none⟩) n n, .bool true]) (by simp [results, Try.results43, go_sem]) rfl FIN.out
end Go.Proofs.Ytcfdagmcnaepgaa
namespace Go.Proofs.Ytcfdagmcnaepgaa
open Go.RowKit
set_option linter.unusedSimpArgs false
set_option linter.unusedVariables false
/-- A table in a box at zt and a list v of answers that grows, both behind w. -/
structure GS (w wr : World) (zt : Nat) (b : BV) (B : BD) (v : Value) (n : Nat) (f : Nat → Int) : Prop where
  tab : TS (fun x => v.ownBlock = some x) wr zt b B
  buf : BufI (fun x => w.heap.size ≤ x ∧ x < wr.heap.size ∧ x ≠ zt) wr v n f
  blw : Blw w wr
  lo : w.heap.size ≤ zt
  sm : B.n ≤ 1048576
theorem GS.go {w wr w' : World} {zt : Nat} {b : BV} {B : BD} {v : Value} {n : Nat} {f : Nat → Int} (h : GS w wr zt b B v n f) (hb : Blw wr w') : GS w w' zt b B v n f :=
  ⟨h.tab.blw hb, (Buf.blw h.buf hb).mono (fun x hx => ⟨hx.1, Nat.lt_of_lt_of_le hx.2.1 hb.size, hx.2.2⟩), h.blw.trans hb, h.lo, h.sm⟩
theorem GS.push {w wr : World} {zt : Nat} {b : BV} {B : BD} {v : Value} {n : Nat} {f : Nat → Int} (h : GS w wr zt b B v n f) (hn : n ≤ 1048576) (x : Int) :
    ∃ ao' cap w', (Builtin.append_ #[23, 23] 23 #[v, .slice (some ⟨wr.heap.size, 0, none⟩) 1 1]).run Try.prog (wr.alloc (.cells #[.int .i64 x] 3)) = .ok (.slice ao' (n + 1) cap) w' ∧ GS w w' zt b B (.slice ao' (n + 1) cap) (n + 1) (fun i => if i = n then x else f i) := by
  have hX : BufI (fun x => v.ownBlock = some x) wr v n f := ⟨h.buf.1, fun g hg => hg⟩
  obtain ⟨a, cap, w', h1, h2, h3⟩ := pushI hX hn x
  have hs := h.blw.size
  have hs3 := h3.size
  have hzt := h.tab.box.lt
  have hlo := h.lo
  have hx : ∀ b, v.ownBlock = some b → w.heap.size ≤ b ∧ b < wr.heap.size ∧ b ≠ zt := fun b hb => h.buf.2 b hb
  refine ⟨a, cap, w', h1, ⟨⟨h.tab.box.mod h3 (fun e => (hx _ e).2.2 rfl), (h.tab.at_.mod h3 (fun x hx e => hx.1 e)).mono (fun x hx2 => ⟨fun e => ?_, by omega, hx2.2.2⟩)⟩, (Buf.congr (Buf.mono h2 (fun b hb => ?_)) (fun i hi => ?_)), Mod.blw h.blw h3 (fun b hb => (hx b hb).1), hlo, h.sm⟩⟩
  · rcases (h2.2 x e).1 with q | q
    · exact hx2.1 q
    · have := hx2.2.1; omega
  · rcases hb.1 with q | q
    · have := hx b q; exact ⟨this.1, hb.2, this.2.2⟩
    · exact ⟨by omega, hb.2, by omega⟩
  · simp only [ic, snoc', Nat.mul_one] at *
theorem GS.upd {w W : World} {zt : Nat} {b b3 : BV} {B R : BD} {v : Value} {n : Nat} {f : Nat → Int} {X : Nat → Prop} (h : GS w W zt b B v n f) (own : BookAt X W b3 R) (hX : ∀ x, X x → x ≠ zt ∧ (¬ v.ownBlock = some x) ∧ x < W.heap.size) (hs : R.n ≤ 1048576) :
    GS w ((W.setCell ⟨zt, 0, none⟩ (.slice b3.a1 R.n b3.c1)).setCell ⟨zt, 1, none⟩ (.slice b3.a2 R.D.n b3.c2)) zt b3 R v n f := by
  have m3 := set2_mod (X := fun x => x = zt) W rfl (.slice b3.a1 R.n b3.c1) (.slice b3.a2 R.D.n b3.c2)
  have hsz := m3.size
  have hlo := h.lo
  exact ⟨⟨row2_setP h.tab.box, (own.mod m3 (fun x hx e => (hX x hx).1 e)).mono (fun x hx => by have := hX x hx; exact ⟨this.2.1, by omega, this.1⟩)⟩, (Buf.mod h.buf m3 (fun x hx e => hx.2.2 e)).mono (fun x hx => ⟨hx.1, by omega, hx.2.2⟩), Mod.blw h.blw m3 (fun x hx => by omega), hlo, hs⟩
theorem GS.own {w wr : World} {zt : Nat} {b : BV} {B : BD} {v : Value} {n : Nat} {f : Nat → Int} (h : GS w wr zt b B v n f) (hn : n ≤ 1048576) : ∃ ao cap, v = .slice ao n cap ∧ IntsOwn (fun x => w.heap.size ≤ x ∧ x < wr.heap.size) wr ao n f := by
  obtain ⟨ao, cap, e, ho⟩ := BufI.own h.buf (by omega)
  exact ⟨ao, cap, e, ho.mono (fun x hx => ⟨hx.1, hx.2.1⟩)⟩
end Go.Proofs.Ytcfdagmcnaepgaa
namespace Go.Proofs.Ytcfdagmcnaepgaa
open Go.RowKit
set_option linter.unusedSimpArgs false
set_option linter.unusedVariables false
set_option maxRecDepth 10000 in
set_option maxHeartbeats 12800000 in
theorem specPP_any (k0 : Int) (ao : Option Addr) (n c : Nat) (F : Nat → Nat → Int) (w : World) (hn : n ≤ 1048576) (hl : KAt 4 (fun x => x < w.heap.size) w ao n F) :
    Calls Try.prog 41 #[.int .i64 k0, .slice ao n c] w (GivesI (ppO k0 n F) w) := by
  go_enter Try.func41, Try.ntmps41
  have HL : Hid (KAt 4 (fun x => x < w.heap.size) w ao n F) := hl
  clear hl
  go_wp2_with fail
  refine (specNew_any k0 w).mono ?_
  rintro e w1 ⟨bq, Rq, r, rfl, ho, hs, own, hb1⟩
  have HO : Hid (resT (cntOK k0) (newB k0) Rq r) := ho
  have hA : Blw w1 (w1.alloc (.cells #[.slice bq.a1 Rq.n bq.c1, .slice bq.a2 Rq.D.n bq.c2] 26)) := (Blw.refl _).alloc _
  have HG0 : Hid (GS w (w1.alloc (.cells #[.slice bq.a1 Rq.n bq.c1, .slice bq.a2 Rq.D.n bq.c2] 26)) w1.heap.size bq Rq (.slice none 0 0) 0 (fun _ => 0)) := ⟨⟨box2 w1 _ _ 26, (own.at.blw hA).mono (fun x hx => ⟨by simp [Value.ownBlock], by simp; omega, by omega⟩)⟩, Buf.nil _ _ _ _ _, hb1.trans hA, hb1.size, by omega⟩
  have HB : Hid (Blw w (w1.alloc (.cells #[.slice bq.a1 Rq.n bq.c1, .slice bq.a2 Rq.D.n bq.c2] 26))) := hb1.trans hA
  clear ho hs own hb1 hA
  cases r
  · have HN : Hid (¬ (cntOK k0 ∧ n ≤ 60)) := HO.out.elim (fun g => by cases g.2.2) (fun g q => g.1 q.1)
    have FIN : Hid _ := zero_givesI (out := ppO k0 n F) (w := w) (w1 := w1.alloc (.cells #[.slice bq.a1 Rq.n bq.c1, .slice bq.a2 Rq.D.n bq.c2] 26)) (Or.inr ⟨HN.out, rfl, rfl⟩) HB.out
    clear HO HB HL HN HG0
    go_wp2
    exact bodyPost_ret (v := .tuple #[.slice none 0 0, .bool false]) (by simp [results, Try.results41, go_sem]) rfl FIN.out
  by_cases hle : n ≤ 60
  case neg =>
    have hle' : (n : Int) > 60 := by omega
    have HN : Hid (¬ (cntOK k0 ∧ n ≤ 60)) := fun q => hle q.2
    have FIN : Hid _ := zero_givesI (out := ppO k0 n F) (w := w) (w1 := w1.alloc (.cells #[.slice bq.a1 Rq.n bq.c1, .slice bq.a2 Rq.D.n bq.c2] 26)) (Or.inr ⟨HN.out, rfl, rfl⟩) HB.out
    clear HO HB HL HN HG0
    go_wp2
    exact bodyPost_ret (v := .tuple #[.slice none 0 0, .bool false]) (by simp [results, Try.results41, go_sem]) rfl FIN.out
  have hle' : ¬ (n : Int) > 60 := by omega
  have HY : Hid (cntOK k0 ∧ n ≤ 60) := HO.out.elim (fun g => ⟨g.1, hle⟩) (fun g => by cases g.2.2)
  have HG : Hid (GS w (w1.alloc (.cells #[.slice bq.a1 Rq.n bq.c1, .slice bq.a2 Rq.D.n bq.c2] 26)) w1.heap.size bq (newB k0) (.slice none 0 0) 0 (fun _ => 0)) := HO.out.elim (fun g => by rw [← g.2.1]; exact HG0.out) (fun g => by cases g.2.2)
  clear HO HG0 HB
  go_wp2_with fail
  clear hle'
  generalize w1.alloc (.cells #[.slice bq.a1 Rq.n bq.c1, .slice bq.a2 Rq.D.n bq.c2] 26) = W at *
  generalize w1.heap.size = zt at *
  go_loopw [8, 31] (fun v i wr => ∃ j : Nat, j ≤ n ∧ i = .int .i64 j ∧ ∃ Bs A b, Plays (newB k0) F j Bs A ∧ GS w wr zt b (Bs j) v j A) (fun _ i _ => n - (intOf i).toNat)
  case atStart => exact ⟨0, Nat.zero_le _, rfl, fun _ => newB k0, fun _ => 0, bq, ⟨rfl, fun i hi => absurd hi (Nat.not_lt_zero _)⟩, HG.out⟩
  case round =>
    clear HG
    obtain ⟨j, hj, rfl, Bs, A, b, hP, hG⟩ := hrel
    generalize u8 = v at *
    have HP : Hid (Plays (newB k0) F j Bs A) := hP
    have HG : Hid (GS w wr zt b (Bs j) v j A) := hG
    clear hP hG
    by_cases hlt : j < n
    · have hlt' : (j : Int) < (n : Int) := by omega
      have HNX : Hid (∀ (R : BD) (x : Int), PSF (Bs j) (F j 0) (F j 1) (F j 2) (F j 3) R x → Plays (newB k0) F (j + 1) (fun i => if i = j + 1 then R else Bs i) (fun i => if i = j then x else A i)) := fun R x h1 => HP.out.next h1
      obtain ⟨bl, o, rfl, -, g⟩ := (HL.out.blw HG.out.blw).2 j hlt
      have g0 := g 0 (by omega)
      have g1 := g 1 (by omega)
      have g2 := g 2 (by omega)
      have g3 := g 3 (by omega)
      rw [Nat.add_zero] at g0
      clear g HP
      generalize F j 0 = x0 at *
      generalize F j 1 = x1 at *
      generalize F j 2 = x2 at *
      generalize F j 3 = x3 at *
      have hA2 : Blw wr (wr.alloc (.cells #[.int .i64 x0, .int .i64 x1, .int .i64 x2, .int .i64 x3] 103)) := (Blw.refl _).alloc _
      replace HG : Hid (GS w (wr.alloc (.cells #[.int .i64 x0, .int .i64 x1, .int .i64 x2, .int .i64 x3] 103)) zt b (Bs j) v j A) := HG.out.go hA2
      have HS : Hid (Row (wr.alloc (.cells #[.int .i64 x0, .int .i64 x1, .int .i64 x2, .int .i64 x3] 103)) wr.heap.size 4 (fun i => if i = 0 then .int .i64 x0 else if i = 1 then .int .i64 x1 else if i = 2 then .int .i64 x2 else .int .i64 x3)) := box4 wr _ _ _ _ 103
      clear hA2
      have HE : Hid (∃ B, Bs j = B) := ⟨_, rfl⟩
      obtain ⟨s0, s1, s2, s3⟩ := get4 HS.out
      go_wp2_with fail
      clear g0 g1 g2 g3 s0 s1 s2 s3
      generalize wr.alloc (.cells #[.int .i64 x0, .int .i64 x1, .int .i64 x2, .int .i64 x3] 103) = wp at *
      generalize wr.heap.size = zs at *
      obtain ⟨B, hB⟩ := HE.out
      rw [hB] at HG HNX
      clear hB HE
      refine (l7Right_any x0 x1 x2 x3 _).mono ?_
      rintro e w2 ⟨r, rfl, hr, hb2⟩
      have HR : Hid (r = true ↔ rightS x0 x1 x2 x3) := hr
      replace HG : Hid (GS w w2 zt b B v j A) := HG.out.go hb2
      replace HS : Hid (Row w2 zs 4 (fun i => if i = 0 then .int .i64 x0 else if i = 1 then .int .i64 x1 else if i = 2 then .int .i64 x2 else .int .i64 x3)) := HS.out.blw hb2
      clear hr hb2
      cases r
      · have HNR : Hid (¬ rightS x0 x1 x2 x3) := fun q => by have := HR.out.2 q; simp at this
        clear HR
        obtain ⟨ao2, cap2, w5, hrun, hG2⟩ := GS.push HG.out (by omega) (-1)
        have HRN : Hid _ := hrun
        have HN : Hid (∃ Bs A b, Plays (newB k0) F (j + 1) Bs A ∧ GS w w5 zt b (Bs (j + 1)) (.slice ao2 (j + 1) cap2) (j + 1) A) := ⟨_, _, b, HNX.out B (-1) (Or.inl ⟨HNR.out, rfl, rfl⟩), by show GS w w5 zt b (if j + 1 = j + 1 then B else Bs (j + 1)) _ _ _; rw [if_pos rfl]; exact hG2⟩
        clear hrun hG2 HG HS HNX HNR HL
        go_wp2_with (first | (at_builtin; refine wpList_app (.tmp 64) (.tmp 66) 23 (by rfl) ?_; refine ⟨_, _, HRN.out, ?_⟩) | fail)
        go_roundw
        case rel => exact ⟨j + 1, by omega, by go_num, HN.out⟩
        case measure => simp [intOf]; omega
      have HYR : Hid (rightS x0 x1 x2 x3) := HR.out.1 (by first | rfl | trivial)
      clear HR
      obtain ⟨s0, s1, s2, s3⟩ := get4 HS.out
      by_cases k1 : x0 = 1
      · subst k1
        obtain ⟨t0, t1⟩ := get2 HG.out.tab.box
        go_wp2_with fail
        clear s0 s1 s2 s3 t0 t1
        refine (specWalk_any b B x1 x3 _ _ HG.out.sm HG.out.tab.at_).mono ?_
        rintro e wn ⟨x, yy, r, rfl, ho, hbk⟩
        have HO : Hid (wtOut B x1 x3 x yy r) := ho
        replace HG : Hid (GS w wn zt b B v j A) := HG.out.go hbk
        clear ho hbk HS HL
        cases r
        · obtain ⟨ao2, cap2, w5, hrun, hG2⟩ := GS.push HG.out (by omega) 0
          have HRN : Hid _ := hrun
          have HN : Hid (∃ Bs A b, Plays (newB k0) F (j + 1) Bs A ∧ GS w w5 zt b (Bs (j + 1)) (.slice ao2 (j + 1) cap2) (j + 1) A) := ⟨_, _, b, HNX.out B 0 (Or.inr ⟨HYR.out, Or.inl ⟨rfl, rfl, x, yy, false, HO.out, by simp⟩⟩), by show GS w w5 zt b (if j + 1 = j + 1 then B else Bs (j + 1)) _ _ _; rw [if_pos rfl]; exact hG2⟩
          clear hrun hG2 HG HNX HYR HO
          go_wp2_with (first | (at_builtin; refine wpList_app (.tmp 64) (.tmp 66) 23 (by rfl) ?_; refine ⟨_, _, HRN.out, ?_⟩) | fail)
          go_roundw
          case rel => exact ⟨j + 1, by omega, by go_num, HN.out⟩
          case measure => simp [intOf]; omega
        · have hx := wt_page HO.out
          have hw : IntKind.i64.wrap (1 + x) = 1 + x := by rw [IntKind.wrap_i64]; omega
          obtain ⟨ao2, cap2, w5, hrun, hG2⟩ := GS.push HG.out (by omega) (1 + x)
          have HRN : Hid _ := hrun
          have HN : Hid (∃ Bs A b, Plays (newB k0) F (j + 1) Bs A ∧ GS w w5 zt b (Bs (j + 1)) (.slice ao2 (j + 1) cap2) (j + 1) A) := ⟨_, _, b, HNX.out B (1 + x) (Or.inr ⟨HYR.out, Or.inl ⟨rfl, rfl, x, yy, true, HO.out, by simp⟩⟩), by show GS w w5 zt b (if j + 1 = j + 1 then B else Bs (j + 1)) _ _ _; rw [if_pos rfl]; exact hG2⟩
          clear hrun hG2 HG HNX HYR HO
          go_wp2_with (first | (at_builtin; refine wpList_app (.tmp 64) (.tmp 66) 23 (by rfl) ?_; refine ⟨_, _, HRN.out, ?_⟩) | fail)
          go_roundw
          case rel => exact ⟨j + 1, by omega, by go_num, HN.out⟩
          case measure => simp [intOf]; omega
      · have d1 : (x0 == 1) = false := by simp [k1]
        have HK1 : Hid (¬ x0 = 1) := k1
        have HK : Hid (x0 = 2 ∨ x0 = 3 ∨ x0 = 4) := right_k HYR.out k1
        clear k1
        obtain ⟨t0, t1⟩ := get2 HG.out.tab.box
        go_wp2_with fail
        clear s0 s1 s2 s3 d1 t0 t1
        refine (specChg_any b B x0 x1 x2 x3 _ _ HG.out.sm HK.out HG.out.tab.at_).mono ?_
        rintro e wn ⟨b3, R, r3, rfl, ho3, hs3, own3, hbk⟩
        have HO : Hid (chgO B x0 x1 x2 x3 R r3) := ho3
        have HSM : Hid (R.n ≤ 1048576) := by show _ ≤ _; omega
        have hA3 : Blw wn (wn.alloc (.cells #[.slice b3.a1 R.n b3.c1, .slice b3.a2 R.D.n b3.c2] 26)) := (Blw.refl _).alloc _
        have HOW : Hid (BookAt (fun x => x ≠ zt ∧ (¬ v.ownBlock = some x) ∧ x < (wn.alloc (.cells #[.slice b3.a1 R.n b3.c1, .slice b3.a2 R.D.n b3.c2] 26)).heap.size) (wn.alloc (.cells #[.slice b3.a1 R.n b3.c1, .slice b3.a2 R.D.n b3.c2] 26)) b3 R) := (own3.at.blw hA3).mono (fun x hx => ⟨by have := HG.out.tab.box.lt; omega, fun e => by have := (HG.out.buf.2 x e).2.1; omega, by rw [World.size_alloc]; omega⟩)
        replace HG : Hid (GS w (wn.alloc (.cells #[.slice b3.a1 R.n b3.c1, .slice b3.a2 R.D.n b3.c2] 26)) zt b B v j A) := (HG.out.go hbk).go hA3
        have HZ : Hid (Row (wn.alloc (.cells #[.slice b3.a1 R.n b3.c1, .slice b3.a2 R.D.n b3.c2] 26)) wn.heap.size 2 (fun i => if i = 0 then .slice b3.a1 R.n b3.c1 else .slice b3.a2 R.D.n b3.c2)) := box2 wn _ _ 26
        clear ho3 hs3 own3 hbk hA3 HS HL
        go_upto_region 11 with fail
        generalize wn.alloc (.cells #[.slice b3.a1 R.n b3.c1, .slice b3.a2 R.D.n b3.c2] 26) = wq at *
        generalize wn.heap.size = zb at *
        cases r3
        · obtain ⟨ao2, cap2, w5, hrun, hG2⟩ := GS.push HG.out (by omega) 0
          have HRN : Hid _ := hrun
          have HN : Hid (∃ Bs A b, Plays (newB k0) F (j + 1) Bs A ∧ GS w w5 zt b (Bs (j + 1)) (.slice ao2 (j + 1) cap2) (j + 1) A) := ⟨_, _, b, HNX.out B 0 (Or.inr ⟨HYR.out, Or.inr ⟨HK1.out, false, ⟨R, HO.out, Or.inr ⟨rfl, rfl⟩⟩, by simp⟩⟩), by show GS w w5 zt b (if j + 1 = j + 1 then B else Bs (j + 1)) _ _ _; rw [if_pos rfl]; exact hG2⟩
          clear hrun hG2 HG HNX HYR HO HOW HSM HZ HK HK1
          go_wp2_with (first | (at_builtin; refine wpList_app (.tmp 64) (.tmp 66) 23 (by rfl) ?_; refine ⟨_, _, HRN.out, ?_⟩) | fail)
          go_roundw
          case rel => exact ⟨j + 1, by omega, by go_num, HN.out⟩
          case measure => simp [intOf]; omega
        · obtain ⟨q0, q1⟩ := get2 HZ.out
          obtain ⟨t0, t1⟩ := get2 HG.out.tab.box
          have f0 := HG.out.tab.box.frozen 0
          have f1 := HG.out.tab.box.frozen 1
          have HG3 : Hid (GS w ((wq.setCell ⟨zt, 0, none⟩ (.slice b3.a1 R.n b3.c1)).setCell ⟨zt, 1, none⟩ (.slice b3.a2 R.D.n b3.c2)) zt b3 R v j A) := HG.out.upd HOW.out (fun x hx => hx) HSM.out
          go_upto_region 20 with fail
          clear q0 q1 t0 t1 f0 f1
          generalize ((wq.setCell ⟨zt, 0, none⟩ (.slice b3.a1 R.n b3.c1)).setCell ⟨zt, 1, none⟩ (.slice b3.a2 R.D.n b3.c2)) = wq2 at *
          obtain ⟨ao2, cap2, w5, hrun, hG2⟩ := GS.push HG3.out (by omega) 1
          have HRN : Hid _ := hrun
          have HN : Hid (∃ Bs A b, Plays (newB k0) F (j + 1) Bs A ∧ GS w w5 zt b (Bs (j + 1)) (.slice ao2 (j + 1) cap2) (j + 1) A) := ⟨_, _, b3, HNX.out R 1 (Or.inr ⟨HYR.out, Or.inr ⟨HK1.out, true, ⟨R, HO.out, Or.inl ⟨rfl, rfl⟩⟩, by simp⟩⟩), by show GS w w5 zt b3 (if j + 1 = j + 1 then R else Bs (j + 1)) _ _ _; rw [if_pos rfl]; exact hG2⟩
          clear hrun hG2 HG HG3 HNX HYR HO HOW HSM HZ HK HK1
          go_wp2_with (first | (at_builtin; refine wpList_app (.tmp 64) (.tmp 66) 23 (by rfl) ?_; refine ⟨_, _, HRN.out, ?_⟩) | fail)
          go_roundw
          case rel => exact ⟨j + 1, by omega, by go_num, HN.out⟩
          case measure => simp [intOf]; omega
    · obtain rfl : j = n := by omega
      obtain ⟨ao3, cap3, hv, hown⟩ := HG.out.own (by omega)
      have FIN : Hid (GivesI (ppO k0 j F) w (.returned (.tuple #[.slice ao3 j cap3, .bool true])) wr) := ⟨ao3, j, cap3, A, true, rfl, Or.inl ⟨HY.out, rfl, rfl, Bs, A, HP.out, fun i hi => rfl⟩, hn, hown, HG.out.blw⟩
      subst hv
      clear hown HG HP HL HY
      go_wp2
      exact bodyPost_ret (v := .tuple #[.slice ao3 j cap3, .bool true]) (by simp [results, Try.results41, go_sem]) rfl FIN.out
end Go.Proofs.Ytcfdagmcnaepgaa
